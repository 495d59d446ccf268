/- Texts that belong together: Zx, acN, acO, BH, Tab, Gl. -/
import Derived.Test.YtgamccijegollaaGreatDoorSOAAA
import Derived.Test.YtgamccijegollaaGreatDoorSOAAD
import Derived.Test.YtgamccijegollaaGreatDoorShelf
import Derived.Test.YtgamccijegollaaGreatDoorSOAAC
import Derived.Test.YtgamccijegollaaGreatDoorShelf3
import Derived.Lib.LaidU8
import Derived.Lib.LaidTab
import Derived.Lib.SmallJoins
import Derived.Sort.Grow
import Derived.Laws.BitsAllLaws
set_option linter.unusedSimpArgs false
set_option linter.unusedVariables false
set_option maxRecDepth 100000
set_option maxHeartbeats 64000000
namespace Go.Proofs.YtgamccijegollaaGreatDoor.Zx
open Go.RowKit Base Dp dI oO
theorem take_snoc {α:Type} (l:List α) (k:Nat) (h:k<l.length):l.take (k+1)=l.take k++[l[k]]:=List.take_succ_eq_append_getElem h
theorem Iu (b:Nat) (L:List UInt8) (h:eu b L=true) (k:Nat) (hk:k<L.length):lH b L[k]=true:=List.all_eq_true.1 h _ (List.getElem_mem _)
theorem tq (b:Nat) (c:UInt8) (h:lH b c=true):hex c.toNat=(dv c:Int):=by
 unfold lH at h
 rw[Bool.and_eq_true]at h
 have:=of_decide_eq_true h.1
 unfold dv
 omega
theorem qA (s:ByteArray) (b:Nat) (w:World) (hs:s.size≤1073741824):Calls Tryz.prog 329 #[.string s,.int .i64 (b:Int)] w fun e w'=>e=.returned (.bool (eu b s.data.toList))∧w=w':=by
 have hl:s.data.toList.length=s.size:=Array.length_toList
 have HL:=hid hl
 clear hl
 go_enter Tryz.func329,Tryz.ntmps329
 go_wp2
 go_loopw [5,6] (fun vk _ wr=>∃k:Nat,k≤s.size∧vk=.int .i64 (k:Int)∧wr=w∧Hid (eu b (s.data.toList.take k)=true)) (fun vk _ _=>s.size - (intOf vk).toNat)
 case atStart=>exact⟨0,Nat.zero_le _,rfl,rfl,rfl⟩
 case round =>
  obtain⟨k,hk,rfl,rfl,HT⟩:=hrel
  by_cases hlt:k<s.size
  ·obtain ⟨c,hc⟩:∃c,s[k]=c:=⟨_,rfl⟩
   have hkl:k<s.data.toList.length:=by rw[HL.out];exact hlt
   have hcl:s.data.toList[k]=c:=hc
   have HS:Hid (s.data.toList.take (k+1)=s.data.toList.take k++[c]):=by rw[←hcl];exact take_snoc _ k hkl
   have HM:Hid (c ∈ s.data.toList):=by show _ ∈ _;rw[←hcl];exact List.getElem_mem _
   have h0:0≤(c.toNat:Int):=by omega
   have h1:(c.toNat:Int)≤255:=by have:=c.toNat_lt;omega
   have hD:lH b c=(decide (0≤hex c.toNat)&&decide (hex c.toNat<b)):=rfl
   have HD:=hid hD
   obtain⟨x,hx⟩:∃x,x=hex c.toNat:=⟨_,rfl⟩
   rw[←hx]at HD
   have HX:=hid hx
   clear hcl hkl hD hx
   by_cases hx0:0≤x
   ·by_cases hxb:x<b
    ·have HOK:Hid (lH b c=true):=by show _=_;rw[HD.out,decide_eq_true hx0,decide_eq_true hxb];rfl
     go_wp2_with fail
     refine(dI.dV _ _ h0 h1).mono ?_
     rintro e w2 ⟨rfl,hw2⟩
     subst hw2
     rw[←HX.out]
     go_wp2
     go_roundw
     case rel=>exact⟨k+1,by omega,by go_num,by first|rfl|trivial,by show _=_;rw[HS.out];unfold eu at HT⊢;rw[List.all_append,HT.out,List.all_cons,HOK.out];rfl⟩
     case measure=>simp[intOf];omega
    have HE:Hid (eu b s.data.toList=false):=by
     show _=_
     refine List.all_eq_false.2 ⟨c,HM.out,?_⟩
     rw[HD.out,decide_eq_false hxb];simp
    go_wp2_with fail
    refine(dI.dV _ _ h0 h1).mono ?_
    rintro e w2 ⟨rfl,hw2⟩
    subst hw2
    rw[←HX.out]
    go_wp2
    go_ret
    exact⟨ak HE.out.symm,rfl⟩
   have HE:Hid (eu b s.data.toList=false):=by
    show _=_
    refine List.all_eq_false.2 ⟨c,HM.out,?_⟩
    rw[HD.out,decide_eq_false hx0];simp
   go_wp2_with fail
   refine(dI.dV _ _ h0 h1).mono ?_
   rintro e w2 ⟨rfl,hw2⟩
   subst hw2
   rw[←HX.out]
   go_wp2
   go_ret
   exact⟨ak HE.out.symm,rfl⟩
  obtain rfl:k=s.size:=by omega
  have HE:Hid (eu b s.data.toList=true):=by
   show _=_
   have h:=HT.out
   rwa[List.take_of_length_le (by rw[HL.out];exact Nat.le_refl _)]at h
  go_wp2
  go_ret
  exact⟨ak HE.out.symm,rfl⟩
theorem ext2 (s:ByteArray) (k:Nat) (h:k≤s.size):(s.extract k s.size).data.toList=s.data.toList.drop k:=by rw[L6.ext_drop s k s.size rfl];rfl
theorem agn (a x:UInt8) (r:List UInt8) (ha:a=48) (hx:x=120∨x=88):Ht (a::x::r)=(16,r):=by unfold Ht;simp only;rw[if_pos ha,if_pos hx]
theorem agm (a x:UInt8) (r:List UInt8) (ha:a=48) (hx:¬(x=120∨x=88)):Ht (a::x::r)=(8,x::r):=by unfold Ht;simp only;rw[if_pos ha,if_neg hx]
theorem Yv (a x:UInt8) (r:List UInt8) (ha:a≠48):Ht (a::x::r)=(10,a::x::r):=by unfold Ht;simp only;rw[if_neg ha]
theorem pre2 (a x p q:UInt8) (r:List UInt8):Lib.hasPrefix (a::x::r) [p,q]=(decide (a=p)&&decide (x=q)):=by
 unfold Lib.hasPrefix
 simp[List.isPrefixOf,Bool.beq_eq_decide_eq,eq_comm]
theorem pre1 (a p q:UInt8):Lib.hasPrefix [a] [p,q]=false:=by simp[Lib.hasPrefix,List.isPrefixOf]
theorem yO {c d:UInt8} (h:c≠d):((c.toNat:Int)==(d.toNat:Int))=false:=by
 have:c.toNat≠d.toNat:=fun e=>h (UInt8.toNat_inj.1 e)
 simp;omega
def CS (L:List UInt8):Value:=match num L with
 |some v=>.tuple #[.int .u64 (sat v),.bool true]
 |none=>.tuple #[.int .u64 0,.bool false]
theorem Ja (L:List UInt8) (hne:L≠[]) (b:Nat) (r:List UInt8) (h:Ht L=(b,r)) (hd:eu b r=true):CS L=.tuple #[.int .u64 (sat (val b r)),.bool true]:=by
 unfold CS num;rw[if_neg hne,h];simp only;rw[if_pos hd]
theorem Oh (L:List UInt8) (hne:L≠[]) (b:Nat) (r:List UInt8) (h:Ht L=(b,r)) (hd:eu b r=false):CS L=.tuple #[.int .u64 0,.bool false]:=by
 unfold CS num;rw[if_neg hne,h];simp only;rw[hd,if_neg (by decide)]
theorem bf (s:ByteArray) (w:World) (hs:s.size≤1073741824):Calls Tryz.prog 328 #[.string s] w fun e w'=>e=.returned (CS s.data.toList)∧w=w':=by
 have hsz:s.data.toList.length=s.size:=Array.length_toList
 match hL:s.data.toList with
 |[]=>
  have h0:s.size=0:=by rw[←hsz,hL];rfl
  have hem:(s.toList==[])=true:=by rw[Lib.toList_data,hL];rfl
  have TR:s.toList=[]:=by rw[Lib.toList_data,hL]
  clear hL hsz
  go_enter Tryz.func328,Tryz.ntmps328
  go_wp2
  go_ret2
  exact⟨rfl,rfl⟩
 | [a] =>
  have h1:s.size=1:=by rw[←hsz,hL];rfl
  have hzs:s.size≤1073741824:=hs
  have hne:s.toList≠[]:=by rw[Lib.toList_data,hL];simp
  have hem:(s.toList==[])=false:=by rw[Lib.toList_data,hL];rfl
  have TR:s.toList.isEmpty=false:=by rw[Lib.toList_data,hL];rfl
  have NW:=hid hL
  have Fj:Hid (eu 10 s.data.toList=true→CS s.data.toList=.tuple #[.int .u64 (sat (val 10 s.data.toList)),.bool true]):=fun h=>Ja _ (by rw[hL];simp) 10 _ (by rw[hL];rfl) h
  have qc:Hid (eu 10 s.data.toList=false→CS s.data.toList=.tuple #[.int .u64 0,.bool false]):=fun h=>Oh _ (by rw[hL];simp) 10 _ (by rw[hL];rfl) h
  have g0:∀h,s[0]'h=a:=fun h=>by
   have:s.data.toList[0]?=some a:=by rw[hL];rfl
   have:=List.getElem?_eq_some_iff.1 this
   obtain⟨_,e⟩:=this
   exact e
  have HP:Hid (∀q,Lib.hasPrefix s.data.toList [48,q]=false):=by intro q;rw[NW.out,pre1]
  rw[←hL]
  clear hL hsz hne
  cases ha2:((a.toNat:Int)==48)
  all_goals
   go_enter Tryz.func328,Tryz.ntmps328
   go_wp2_with fail
   refine(Tryz.strings_HasPrefix s ⟨#[48,120]⟩ _).mono ?_
   rintro e w2 ⟨rfl,hw2⟩
   subst hw2
   rw[show(⟨#[48,120]⟩:ByteArray).data.toList=[48,120]from rfl,HP.out]
   go_wp2_with fail
   refine(Tryz.strings_HasPrefix s ⟨#[48,88]⟩ _).mono ?_
   rintro e w2 ⟨rfl,hw2⟩
   subst hw2
   rw[show(⟨#[48,88]⟩:ByteArray).data.toList=[48,88]from rfl,HP.out]
   go_wp2_with fail
   refine(qA s 10 _ hzs).mono ?_
   rintro e w2 ⟨rfl,hw2⟩
   subst hw2
   cases hd:eu 10 s.data.toList with
   |false=>
    have HE:=hid (qc.out hd)
    clear hd
    go_wp2
    go_ret2
    exact⟨by rw[HE.out];rfl,rfl⟩
   | true=>
    have HE:=hid (Fj.out hd)
    have HD:=hid hd
    have HL:Hid (s.data.toList.length=s.size):=Array.length_toList
    clear hd
    go_wp2
    go_loopw [6,7] (fun vn vk wr=>∃k:Nat,k≤s.size∧vk=.int .i64 (k:Int)∧wr=w2∧vn=.int .u64 (sat (val 10 (s.data.toList.take k)))) (fun _ vk _=>s.size - (intOf vk).toNat)
    case atStart=>exact⟨0,Nat.zero_le _,rfl,rfl,rfl⟩
    case round=>
     obtain⟨k,hk,rfl,rfl,rfl⟩:=hrel
     obtain⟨v,hv⟩:∃v,v=val 10 (s.data.toList.take k):=⟨_,rfl⟩
     obtain⟨n,hn⟩:∃n,n=sat v:=⟨_,rfl⟩
     have hn2:n≤4294967296:=by rw[hn];unfold sat;omega
     rw[←hv,←hn]
     have HV:=hid hv
     have HN:=hid hn
     clear hv hn
     by_cases hlt:k<s.size
     ·obtain⟨c,hc⟩:∃c,s[k]=c:=⟨_,rfl⟩
      have hkl:k<s.data.toList.length:=by rw[HL.out];exact hlt
      have hcl:s.data.toList[k]=c:=hc
      have HS:Hid (s.data.toList.take (k+1)=s.data.toList.take k++[c]):=by rw[←hcl];exact take_snoc _ k hkl
      have hD:lH 10 c=true:=by rw[←hcl];exact Iu _ _ HD.out k hkl
      have HX:=hid (tq 10 c hD)
      obtain⟨d,hd⟩:∃d,d=dv c:=⟨_,rfl⟩
      have alU:d≤15:=by rw[hd];exact U8 c
      rw[←hd]at HX
      have Td:=hid hd
      have h0:0≤(c.toNat:Int):=by omega
      have h1:(c.toNat:Int)≤255:=by have:=c.toNat_lt;omega
      have xE:Hid (sat (val 10 (s.data.toList.take (k+1)))=min (n*10+d) 4294967296):=by
       show _=_
       rw[HS.out,jh,←HV.out,←Td.out,HN.out,Ea v 10 d (by omega)]
      clear hcl hkl hD hd
      have HZ:Hid (Value.int .u64 (min ((n:Int)*10+(d:Int)) 4294967296)=.int .u64 (sat (val 10 (s.data.toList.take (k+1))))):=by
       refine int_eq ?_
       rw[xE.out];omega
      go_wp2_with fail
      refine(dI.dV _ _ h0 h1).mono ?_
      rintro e w2 ⟨rfl,hw2⟩
      subst hw2
      rw[HX.out]
      go_wp2
      go_roundw
      case rel=>exact⟨k+1,by omega,by go_num,by first|rfl|trivial,HZ.out⟩
      case measure=>simp[intOf];omega
     obtain rfl:k=s.size:=by omega
     have HZ:Hid (n=sat (val 10 s.data.toList)):=by
      show _=_
      rw[HN.out,HV.out,List.take_of_length_le (by rw[HL.out];exact Nat.le_refl _)]
     go_wp2
     go_ret2
     exact⟨by rw[HE.out,HZ.out];rfl,rfl⟩
 | a :: x :: r =>
  have h1:2≤s.size:=by rw[←hsz,hL];simp
  have h1i:(2:Int)≤(s.size:Int):=by omega
  have h0i:(0:Int)<(s.size:Int):=by omega
  have h1j:(1:Int)<(s.size:Int):=by omega
  have hem:(s.toList==[])=false:=by rw[Lib.toList_data,hL];rfl
  have TR:s.toList.isEmpty=false:=by rw[Lib.toList_data,hL];rfl
  have g0:∀h,s[0]'h=a:=fun h=>by
   have:s.data.toList[0]?=some a:=by rw[hL];rfl
   have:=List.getElem?_eq_some_iff.1 this
   obtain⟨_,e⟩:=this
   exact e
  have NW:=hid hL
  have Ac:s.data.toList≠[]:=by rw[hL];simp
  rw[←hL]
  by_cases ha:a=48
  ·by_cases hx:x=120∨x=88
   ·obtain ⟨Z,hZ⟩:∃Z,Z=s.extract 2 s.size:=⟨_,rfl⟩
    have Tn:Z.data.toList=r:=by rw[hZ,ext2 _ _ h1,hL];rfl
    have hZs:s.extract 2 s.size=Z:=hZ.symm
    have hzs:Z.size≤1073741824:=by have:Z.data.toList.length=Z.size:=Array.length_toList;rw[Tn]at this;rw[hL]at hsz;simp at hsz;omega
    have Fj:Hid (eu 16 Z.data.toList=true→CS s.data.toList=.tuple #[.int .u64 (sat (val 16 Z.data.toList)),.bool true]):=fun h=>Ja _ Ac 16 _ (by rw[hL,agn _ _ _ ha hx,Tn]) h
    have qc:Hid (eu 16 Z.data.toList=false→CS s.data.toList=.tuple #[.int .u64 0,.bool false]):=fun h=>Oh _ Ac 16 _ (by rw[hL,agn _ _ _ ha hx,Tn]) h
    clear hL hsz Tn hZ Ac
    rcases hx with hx|hx
    ·have HP : Hid (Lib.hasPrefix s.data.toList [48, 120] = true) := by show _ = _; rw [NW.out, pre2, ha, hx]; rfl
     clear ha hx g0
     go_enter Tryz.func328,Tryz.ntmps328
     go_wp2_with fail
     refine(Tryz.strings_HasPrefix s ⟨#[48,120]⟩ _).mono ?_
     rintro e w2 ⟨rfl,hw2⟩
     subst hw2
     rw[show(⟨#[48,120]⟩:ByteArray).data.toList=[48,120]from rfl,HP.out]
     go_wp2_with fail
     refine(qA Z 16 _ hzs).mono ?_
     rintro e w2 ⟨rfl,hw2⟩
     subst hw2
     cases hd:eu 16 Z.data.toList with
     |false=>
      have HE:=hid (qc.out hd)
      clear hd
      go_wp2
      go_ret2
      exact⟨by rw[HE.out];rfl,rfl⟩
     | true=>
      have HE:=hid (Fj.out hd)
      have HD:=hid hd
      have HL:Hid (Z.data.toList.length=Z.size):=Array.length_toList
      clear hd
      go_wp2
      go_loopw [6,7] (fun vn vk wr=>∃k:Nat,k≤Z.size∧vk=.int .i64 (k:Int)∧wr=w2∧vn=.int .u64 (sat (val 16 (Z.data.toList.take k)))) (fun _ vk _=>Z.size - (intOf vk).toNat)
      case atStart=>exact⟨0,Nat.zero_le _,rfl,rfl,rfl⟩
      case round=>
       obtain⟨k,hk,rfl,rfl,rfl⟩:=hrel
       obtain⟨v,hv⟩:∃v,v=val 16 (Z.data.toList.take k):=⟨_,rfl⟩
       obtain⟨n,hn⟩:∃n,n=sat v:=⟨_,rfl⟩
       have hn2:n≤4294967296:=by rw[hn];unfold sat;omega
       rw[←hv,←hn]
       have HV:=hid hv
       have HN:=hid hn
       clear hv hn
       by_cases hlt:k<Z.size
       ·obtain⟨c,hc⟩:∃c,Z[k]=c:=⟨_,rfl⟩
        have hkl:k<Z.data.toList.length:=by rw[HL.out];exact hlt
        have hcl:Z.data.toList[k]=c:=hc
        have HS:Hid (Z.data.toList.take (k+1)=Z.data.toList.take k++[c]):=by rw[←hcl];exact take_snoc _ k hkl
        have hD:lH 16 c=true:=by rw[←hcl];exact Iu _ _ HD.out k hkl
        have HX:=hid (tq 16 c hD)
        obtain⟨d,hd⟩:∃d,d=dv c:=⟨_,rfl⟩
        have alU:d≤15:=by rw[hd];exact U8 c
        rw[←hd]at HX
        have Td:=hid hd
        have h0:0≤(c.toNat:Int):=by omega
        have h1:(c.toNat:Int)≤255:=by have:=c.toNat_lt;omega
        have xE:Hid (sat (val 16 (Z.data.toList.take (k+1)))=min (n*16+d) 4294967296):=by
         show _=_
         rw[HS.out,jh,←HV.out,←Td.out,HN.out,Ea v 16 d (by omega)]
        clear hcl hkl hD hd
        have HZ:Hid (Value.int .u64 (min ((n:Int)*16+(d:Int)) 4294967296)=.int .u64 (sat (val 16 (Z.data.toList.take (k+1))))):=by
         refine int_eq ?_
         rw[xE.out];omega
        go_wp2_with fail
        refine(dI.dV _ _ h0 h1).mono ?_
        rintro e w2 ⟨rfl,hw2⟩
        subst hw2
        rw[HX.out]
        go_wp2
        go_roundw
        case rel=>exact⟨k+1,by omega,by go_num,by first|rfl|trivial,HZ.out⟩
        case measure=>simp[intOf];omega
       obtain rfl:k=Z.size:=by omega
       have HZ:Hid (n=sat (val 16 Z.data.toList)):=by
        show _=_
        rw[HN.out,HV.out,List.take_of_length_le (by rw[HL.out];exact Nat.le_refl _)]
       go_wp2
       go_ret2
       exact⟨by rw[HE.out,HZ.out];rfl,rfl⟩
    have HP:Hid (Lib.hasPrefix s.data.toList [48,120]=false):=by show _=_;rw[NW.out,pre2,ha,hx];rfl
    have HP2:Hid (Lib.hasPrefix s.data.toList [48,88]=true):=by show _=_;rw[NW.out,pre2,ha,hx];rfl
    clear ha hx g0
    go_enter Tryz.func328,Tryz.ntmps328
    go_wp2_with fail
    refine(Tryz.strings_HasPrefix s ⟨#[48,120]⟩ _).mono ?_
    rintro e w2 ⟨rfl,hw2⟩
    subst hw2
    rw[show(⟨#[48,120]⟩:ByteArray).data.toList=[48,120]from rfl,HP.out]
    go_wp2_with fail
    refine(Tryz.strings_HasPrefix s ⟨#[48,88]⟩ _).mono ?_
    rintro e w2 ⟨rfl,hw2⟩
    subst hw2
    rw[show(⟨#[48,88]⟩:ByteArray).data.toList=[48,88]from rfl,HP2.out]
    go_wp2_with fail
    refine(qA Z 16 _ hzs).mono ?_
    rintro e w2 ⟨rfl,hw2⟩
    subst hw2
    cases hd:eu 16 Z.data.toList with
    |false=>
     have HE:=hid (qc.out hd)
     clear hd
     go_wp2
     go_ret2
     exact⟨by rw[HE.out];rfl,rfl⟩
    | true=>
     have HE:=hid (Fj.out hd)
     have HD:=hid hd
     have HL:Hid (Z.data.toList.length=Z.size):=Array.length_toList
     clear hd
     go_wp2
     go_loopw [6,7] (fun vn vk wr=>∃k:Nat,k≤Z.size∧vk=.int .i64 (k:Int)∧wr=w2∧vn=.int .u64 (sat (val 16 (Z.data.toList.take k)))) (fun _ vk _=>Z.size - (intOf vk).toNat)
     case atStart=>exact⟨0,Nat.zero_le _,rfl,rfl,rfl⟩
     case round=>
      obtain⟨k,hk,rfl,rfl,rfl⟩:=hrel
      obtain⟨v,hv⟩:∃v,v=val 16 (Z.data.toList.take k):=⟨_,rfl⟩
      obtain⟨n,hn⟩:∃n,n=sat v:=⟨_,rfl⟩
      have hn2:n≤4294967296:=by rw[hn];unfold sat;omega
      rw[←hv,←hn]
      have HV:=hid hv
      have HN:=hid hn
      clear hv hn
      by_cases hlt:k<Z.size
      ·obtain⟨c,hc⟩:∃c,Z[k]=c:=⟨_,rfl⟩
       have hkl:k<Z.data.toList.length:=by rw[HL.out];exact hlt
       have hcl:Z.data.toList[k]=c:=hc
       have HS:Hid (Z.data.toList.take (k+1)=Z.data.toList.take k++[c]):=by rw[←hcl];exact take_snoc _ k hkl
       have hD:lH 16 c=true:=by rw[←hcl];exact Iu _ _ HD.out k hkl
       have HX:=hid (tq 16 c hD)
       obtain⟨d,hd⟩:∃d,d=dv c:=⟨_,rfl⟩
       have alU:d≤15:=by rw[hd];exact U8 c
       rw[←hd]at HX
       have Td:=hid hd
       have h0:0≤(c.toNat:Int):=by omega
       have h1:(c.toNat:Int)≤255:=by have:=c.toNat_lt;omega
       have xE:Hid (sat (val 16 (Z.data.toList.take (k+1)))=min (n*16+d) 4294967296):=by
        show _=_
        rw[HS.out,jh,←HV.out,←Td.out,HN.out,Ea v 16 d (by omega)]
       clear hcl hkl hD hd
       have HZ:Hid (Value.int .u64 (min ((n:Int)*16+(d:Int)) 4294967296)=.int .u64 (sat (val 16 (Z.data.toList.take (k+1))))):=by
        refine int_eq ?_
        rw[xE.out];omega
       go_wp2_with fail
       refine(dI.dV _ _ h0 h1).mono ?_
       rintro e w2 ⟨rfl,hw2⟩
       subst hw2
       rw[HX.out]
       go_wp2
       go_roundw
       case rel=>exact⟨k+1,by omega,by go_num,by first|rfl|trivial,HZ.out⟩
       case measure=>simp[intOf];omega
      obtain rfl:k=Z.size:=by omega
      have HZ:Hid (n=sat (val 16 Z.data.toList)):=by
       show _=_
       rw[HN.out,HV.out,List.take_of_length_le (by rw[HL.out];exact Nat.le_refl _)]
      go_wp2
      go_ret2
      exact⟨by rw[HE.out,HZ.out];rfl,rfl⟩
   obtain⟨Z,hZ⟩:∃Z,Z=s.extract 1 s.size:=⟨_,rfl⟩
   have Tn:Z.data.toList=x::r:=by rw[hZ,ext2 _ _ (by omega),hL];rfl
   have hZs:s.extract 1 s.size=Z:=hZ.symm
   have hzs:Z.size≤1073741824:=by have:Z.data.toList.length=Z.size:=Array.length_toList;rw[Tn]at this;rw[hL]at hsz;simp at hsz this;omega
   have Fj:Hid (eu 8 Z.data.toList=true→CS s.data.toList=.tuple #[.int .u64 (sat (val 8 Z.data.toList)),.bool true]):=fun h=>Ja _ Ac 8 _ (by rw[hL,agm _ _ _ ha hx,Tn]) h
   have qc:Hid (eu 8 Z.data.toList=false→CS s.data.toList=.tuple #[.int .u64 0,.bool false]):=fun h=>Oh _ Ac 8 _ (by rw[hL,agm _ _ _ ha hx,Tn]) h
   have HP:Hid (Lib.hasPrefix s.data.toList [48,120]=false):=by show _=_;rw[NW.out,pre2,decide_eq_false (fun h=>hx (.inl h)),Bool.and_false]
   have HP2:Hid (Lib.hasPrefix s.data.toList [48,88]=false):=by show _=_;rw[NW.out,pre2,decide_eq_false (fun h=>hx (.inr h)),Bool.and_false]
   have g48:∀h,s[0]'h=48:=fun h=>by rw[g0 h,ha]
   clear hL hsz Tn hZ Ac ha hx g0
   go_enter Tryz.func328,Tryz.ntmps328
   go_wp2_with fail
   refine(Tryz.strings_HasPrefix s ⟨#[48,120]⟩ _).mono ?_
   rintro e w2 ⟨rfl,hw2⟩
   subst hw2
   rw[show(⟨#[48,120]⟩:ByteArray).data.toList=[48,120]from rfl,HP.out]
   go_wp2_with fail
   refine(Tryz.strings_HasPrefix s ⟨#[48,88]⟩ _).mono ?_
   rintro e w2 ⟨rfl,hw2⟩
   subst hw2
   rw[show(⟨#[48,88]⟩:ByteArray).data.toList=[48,88]from rfl,HP2.out]
   go_wp2_with fail
   refine(qA Z 8 _ hzs).mono ?_
   rintro e w2 ⟨rfl,hw2⟩
   subst hw2
   cases hd:eu 8 Z.data.toList with
   |false=>
    have HE:=hid (qc.out hd)
    clear hd
    go_wp2
    go_ret2
    exact⟨by rw[HE.out];rfl,rfl⟩
   | true=>
    have HE:=hid (Fj.out hd)
    have HD:=hid hd
    have HL:Hid (Z.data.toList.length=Z.size):=Array.length_toList
    clear hd
    go_wp2
    go_loopw [6,7] (fun vn vk wr=>∃k:Nat,k≤Z.size∧vk=.int .i64 (k:Int)∧wr=w2∧vn=.int .u64 (sat (val 8 (Z.data.toList.take k)))) (fun _ vk _=>Z.size - (intOf vk).toNat)
    case atStart=>exact⟨0,Nat.zero_le _,rfl,rfl,rfl⟩
    case round=>
     obtain⟨k,hk,rfl,rfl,rfl⟩:=hrel
     obtain⟨v,hv⟩:∃v,v=val 8 (Z.data.toList.take k):=⟨_,rfl⟩
     obtain⟨n,hn⟩:∃n,n=sat v:=⟨_,rfl⟩
     have hn2:n≤4294967296:=by rw[hn];unfold sat;omega
     rw[←hv,←hn]
     have HV:=hid hv
     have HN:=hid hn
     clear hv hn
     by_cases hlt:k<Z.size
     ·obtain⟨c,hc⟩:∃c,Z[k]=c:=⟨_,rfl⟩
      have hkl:k<Z.data.toList.length:=by rw[HL.out];exact hlt
      have hcl:Z.data.toList[k]=c:=hc
      have HS:Hid (Z.data.toList.take (k+1)=Z.data.toList.take k++[c]):=by rw[←hcl];exact take_snoc _ k hkl
      have hD:lH 8 c=true:=by rw[←hcl];exact Iu _ _ HD.out k hkl
      have HX:=hid (tq 8 c hD)
      obtain⟨d,hd⟩:∃d,d=dv c:=⟨_,rfl⟩
      have alU:d≤15:=by rw[hd];exact U8 c
      rw[←hd]at HX
      have Td:=hid hd
      have h0:0≤(c.toNat:Int):=by omega
      have h1:(c.toNat:Int)≤255:=by have:=c.toNat_lt;omega
      have xE:Hid (sat (val 8 (Z.data.toList.take (k+1)))=min (n*8+d) 4294967296):=by
       show _=_
       rw[HS.out,jh,←HV.out,←Td.out,HN.out,Ea v 8 d (by omega)]
      clear hcl hkl hD hd
      have HZ:Hid (Value.int .u64 (min ((n:Int)*8+(d:Int)) 4294967296)=.int .u64 (sat (val 8 (Z.data.toList.take (k+1))))):=by
       refine int_eq ?_
       rw[xE.out];omega
      go_wp2_with fail
      refine(dI.dV _ _ h0 h1).mono ?_
      rintro e w2 ⟨rfl,hw2⟩
      subst hw2
      rw[HX.out]
      go_wp2
      go_roundw
      case rel=>exact⟨k+1,by omega,by go_num,by first|rfl|trivial,HZ.out⟩
      case measure=>simp[intOf];omega
     obtain rfl:k=Z.size:=by omega
     have HZ:Hid (n=sat (val 8 Z.data.toList)):=by
      show _=_
      rw[HN.out,HV.out,List.take_of_length_le (by rw[HL.out];exact Nat.le_refl _)]
     go_wp2
     go_ret2
     exact⟨by rw[HE.out,HZ.out];rfl,rfl⟩
  have Fj:Hid (eu 10 s.data.toList=true→CS s.data.toList=.tuple #[.int .u64 (sat (val 10 s.data.toList)),.bool true]):=fun h=>Ja _ Ac 10 _ (by rw[hL,Yv _ _ _ ha]) h
  have qc:Hid (eu 10 s.data.toList=false→CS s.data.toList=.tuple #[.int .u64 0,.bool false]):=fun h=>Oh _ Ac 10 _ (by rw[hL,Yv _ _ _ ha]) h
  have HP:Hid (∀q,Lib.hasPrefix s.data.toList [48,q]=false):=by intro q;rw[NW.out,pre2,decide_eq_false ha,Bool.false_and]
  have ha2:((a.toNat:Int)==48)=false:=yO (d:=48) ha
  have hzs:s.size≤1073741824:=hs
  clear hL hsz Ac ha
  go_enter Tryz.func328,Tryz.ntmps328
  go_wp2_with fail
  refine(Tryz.strings_HasPrefix s ⟨#[48,120]⟩ _).mono ?_
  rintro e w2 ⟨rfl,hw2⟩
  subst hw2
  rw[show(⟨#[48,120]⟩:ByteArray).data.toList=[48,120]from rfl,HP.out]
  go_wp2_with fail
  refine(Tryz.strings_HasPrefix s ⟨#[48,88]⟩ _).mono ?_
  rintro e w2 ⟨rfl,hw2⟩
  subst hw2
  rw[show(⟨#[48,88]⟩:ByteArray).data.toList=[48,88]from rfl,HP.out]
  go_wp2_with fail
  refine(qA s 10 _ hzs).mono ?_
  rintro e w2 ⟨rfl,hw2⟩
  subst hw2
  cases hd:eu 10 s.data.toList with
  |false=>
   have HE:=hid (qc.out hd)
   clear hd
   go_wp2
   go_ret2
   exact⟨by rw[HE.out];rfl,rfl⟩
  | true=>
   have HE:=hid (Fj.out hd)
   have HD:=hid hd
   have HL:Hid (s.data.toList.length=s.size):=Array.length_toList
   clear hd
   go_wp2
   go_loopw [6,7] (fun vn vk wr=>∃k:Nat,k≤s.size∧vk=.int .i64 (k:Int)∧wr=w2∧vn=.int .u64 (sat (val 10 (s.data.toList.take k)))) (fun _ vk _=>s.size - (intOf vk).toNat)
   case atStart=>exact⟨0,Nat.zero_le _,rfl,rfl,rfl⟩
   case round=>
    obtain⟨k,hk,rfl,rfl,rfl⟩:=hrel
    obtain⟨v,hv⟩:∃v,v=val 10 (s.data.toList.take k):=⟨_,rfl⟩
    obtain⟨n,hn⟩:∃n,n=sat v:=⟨_,rfl⟩
    have hn2:n≤4294967296:=by rw[hn];unfold sat;omega
    rw[←hv,←hn]
    have HV:=hid hv
    have HN:=hid hn
    clear hv hn
    by_cases hlt:k<s.size
    ·obtain⟨c,hc⟩:∃c,s[k]=c:=⟨_,rfl⟩
     have hkl:k<s.data.toList.length:=by rw[HL.out];exact hlt
     have hcl:s.data.toList[k]=c:=hc
     have HS:Hid (s.data.toList.take (k+1)=s.data.toList.take k++[c]):=by rw[←hcl];exact take_snoc _ k hkl
     have hD:lH 10 c=true:=by rw[←hcl];exact Iu _ _ HD.out k hkl
     have HX:=hid (tq 10 c hD)
     obtain⟨d,hd⟩:∃d,d=dv c:=⟨_,rfl⟩
     have alU:d≤15:=by rw[hd];exact U8 c
     rw[←hd]at HX
     have Td:=hid hd
     have h0:0≤(c.toNat:Int):=by omega
     have h1:(c.toNat:Int)≤255:=by have:=c.toNat_lt;omega
     have xE:Hid (sat (val 10 (s.data.toList.take (k+1)))=min (n*10+d) 4294967296):=by
      show _=_
      rw[HS.out,jh,←HV.out,←Td.out,HN.out,Ea v 10 d (by omega)]
     clear hcl hkl hD hd
     have HZ:Hid (Value.int .u64 (min ((n:Int)*10+(d:Int)) 4294967296)=.int .u64 (sat (val 10 (s.data.toList.take (k+1))))):=by
      refine int_eq ?_
      rw[xE.out];omega
     go_wp2_with fail
     refine(dI.dV _ _ h0 h1).mono ?_
     rintro e w2 ⟨rfl,hw2⟩
     subst hw2
     rw[HX.out]
     go_wp2
     go_roundw
     case rel=>exact⟨k+1,by omega,by go_num,by first|rfl|trivial,HZ.out⟩
     case measure=>simp[intOf];omega
    obtain rfl:k=s.size:=by omega
    have HZ:Hid (n=sat (val 10 s.data.toList)):=by
     show _=_
     rw[HN.out,HV.out,List.take_of_length_le (by rw[HL.out];exact Nat.le_refl _)]
    go_wp2
    go_ret2
    exact⟨by rw[HE.out,HZ.out];rfl,rfl⟩
end Go.Proofs.YtgamccijegollaaGreatDoor.Zx
namespace Go.Proofs.YtgamccijegollaaGreatDoor.acN
open Go.RowKit Base Dp acj dI oO Zx
def Max (w:World):Prop:=∃m,w.cell? ⟨2,0,none⟩=some (.int .i64 m)
theorem Nv (s:ByteArray) (w:World) (hs:s.size≤1073741824):Calls Tryz.prog 327 #[.string s] w fun e w'=>e=.returned (.string (strOf (oH s.data.toList)))∧w=w':=by
 go_enter Tryz.func327,Tryz.ntmps327
 go_wp2_with fail
 refine(Tryz.strings_TrimSuffix s ⟨#[46]⟩ _ (by omega)).mono ?_
 rintro e w2 ⟨rfl,hw2⟩
 subst hw2
 go_wp2
 go_ret
 exact⟨rfl,rfl⟩
theorem xq:∀(L:List UInt8) (k:Nat),L.count 46≤k→Lib.splitK [46] 0 k L=bZ L
 |[],0,_=>rfl
 |[],k+1,_=>rfl
 |b::l,0,h=>by
  have hb:b≠46:=by rintro rfl;simp at h
  have ih:=xq l 0 (by rw[List.count_cons_of_ne (by simpa using hb)]at h;exact h)
  show[b::l]=_
  rw[bZ,if_neg hb,←ih]
  rfl
 | b :: l, k + 1, h => by
  by_cases hb:b=46
  ·subst hb
   have ih:=xq l k (by simp at h;omega)
   have e:Lib.index (46::l) [46]=0:=by rw[Lib.index,if_pos (by simp[List.isPrefixOf])]
   rw[bZ,if_pos rfl,Lib.splitK,e,if_neg (by decide)]
   show[]::_=_
   rw[←ih]
   rfl
  ·have hc:l.count 46≤k+1:=by rw[List.count_cons_of_ne (by simpa using hb)]at h;exact h
   have ih:=xq l (k+1) hc
   have e:Lib.index (b::l) [46]=if Lib.index l [46]== -1 then -1 else Lib.index l [46]+1:=by rw[Lib.index,if_neg (by simp[List.isPrefixOf,Ne.symm hb])]
   rw[Lib.splitK]at ih⊢
   rw[bZ,if_neg hb,←ih,e]
   by_cases hm:Lib.index l [46]= -1
   ·rw[hm]
    rfl
   ·have hge:=Lib.index_ge l [46]
    obtain⟨j,hj⟩:∃j:Nat,Lib.index l [46]=j:=⟨(Lib.index l [46]).toNat,by omega⟩
    have h1:((j:Int)== -1)=false:=beq_eq_false_iff_ne.2 (by omega)
    have h2:((j:Int)+1== -1)=false:=beq_eq_false_iff_ne.2 (by omega)
    have h3:((j:Int)+1).toNat=j+1:=by omega
    simp only[hj,h1,Bool.false_eq_true,if_false,h2,h3]
    simp
def Read (w:World) (l:List (List UInt8)) (e:Ending) (w':World):Prop:=∃A n c,e=.returned (.slice A n c)∧n=l.length∧n≤c∧c≤maxLen∧aY w' A n ((l.map strOf).map Value.string)∧Below w.heap.size w w'
theorem aiJ (s:ByteArray) (w:World) (hs:s.size≤1073741824) (hM:Max w):Calls Tryz.prog 330 #[.string s,.string ⟨#[46]⟩] w (Read w (bZ s.data.toList)):=by
 obtain⟨m,hm⟩:=hM
 refine(Tryz.strings_Split s ⟨#[46]⟩ m w (by omega) hm (Nat.le_refl _)).mono ?_
 rintro e w' ⟨rfl,rfl⟩
 have hd:=Lib.splitB_data ⟨#[46]⟩ 0 (Lib.countB s ⟨#[46]⟩) s
 rw[show(⟨#[46]⟩:ByteArray).data.toList=[46]from rfl,xq _ _ (by rw[←Lib.count_one];exact Nat.le_refl _)]at hd
 have hl:=Lib.splitB_all ⟨#[46]⟩ (Nat.le_refl _) 0 _ s rfl
 have hc:=Lib.countB_le ⟨#[46]⟩ (Nat.le_refl _) s.size s (Nat.le_refl _)
 generalize Lib.splitB ⟨#[46]⟩ 0 (Lib.countB s ⟨#[46]⟩) s=B at hd hl⊢
 have hB:B=(bZ s.data.toList).map strOf:=by
  rw[←hd,List.map_map]
  conv=>lhs;rw[←List.map_id B]
  exact List.map_congr_left fun x _=>(aG x).symm
 unfold Read
 rw[←hB]
 refine⟨_,_,_,rfl,by rw[←hl,hB,List.length_map],Nat.le_refl _,by unfold maxLen;omega,?_,(Below.refl _ _).alloc (Nat.le_refl _) _⟩
 exact aY.jF (by rw[List.length_map,hl]) (by simp) (fun j hj=>by
  rw[Nat.zero_add,World.cell?_alloc_mark]
  simp)
end Go.Proofs.YtgamccijegollaaGreatDoor.acN
namespace Go.Proofs.YtgamccijegollaaGreatDoor.acO
open Go.RowKit Base Dp dI oO Zx acN
theorem yQ (L:List UInt8) (h:num L=none):CS L=.tuple #[.int .u64 0,.bool false]:=by unfold CS;rw[h]
theorem yR (L:List UInt8) (v:Nat) (h:num L=some v):CS L=.tuple #[.int .u64 (sat v),.bool true]:=by unfold CS;rw[h]
theorem afQ (L:List UInt8):(lst L).length≤L.length:=by
 unfold lst
 cases h:(bZ L).getLast? with
 |none=>simp
 |some x=>exact qK L x (List.mem_of_getLast? h)
theorem aln (s:ByteArray) (w:World) (hs:s.size≤900000):Calls Tryz.prog 304 #[.string s] w fun e w'=>e=.returned (.bool (ends s.data.toList))∧Below w.heap.size w w':=by
 have hsl:s.data.toList.length=s.size:=Array.length_toList
 obtain⟨K,hK⟩:∃K,K=lst (oH s.data.toList):=⟨_,rfl⟩
 obtain⟨o,ho⟩:∃o,o=ends s.data.toList:=⟨_,rfl⟩
 have ho2:o=((num K).isSome||(decide (K≠[])&&eu 10 K)):=by rw[ho,hK];rfl
 obtain⟨U,hU⟩:∃U,U=strOf (oH s.data.toList):=⟨_,rfl⟩
 have hUd:U.data.toList=oH s.data.toList:=by rw[hU];rfl
 have hus:U.size≤900000:=by rw[hU,o9];have:=Fa s.data.toList;omega
 obtain⟨hd1,hd2,hd3⟩:=ahn U
 rw[hUd,←hK]at hd1
 obtain⟨at_,hat⟩:∃a,a=Lib.lastIndexByte U 46:=⟨_,rfl⟩
 rw[←hat]at hd1 hd2 hd3
 obtain⟨n,hn⟩:∃n:Nat,(n:Int)=at_+1:=⟨(at_+1).toNat,by omega⟩
 have hn2:n=(at_+1).toNat:=by omega
 rw[←hn2]at hd1
 obtain⟨Y,hY⟩:∃Y,Y=strOf K:=⟨_,rfl⟩
 have hYe:U.extract n U.size=Y:=by rw[L6.ext_drop _ _ _ rfl,hUd,hd1,hY]
 have hYd:Y.data.toList=K:=by rw[hY];rfl
 have hys:Y.size≤1073741824:=by
  have h1:=afQ (oH s.data.toList)
  have h2:=Fa s.data.toList
  rw[hY,o9,hK];omega
 have hnu:(n:Int)≤(U.size:Int):=by omega
 have hn0:(0:Int)≤(n:Int):=by omega
 have hem:(Y.toList==[])=decide (K=[]):=by rw[hY];unfold strOf;rw[ByteArray.toList_mk,Bool.eq_iff_iff];simp
 have HO:=hid ho2
 have HU:=hid hU
 have HAT:=hid hat
 have HN:Hid (at_+1=(n:Int)):=hn.symm
 have kU:=hid hYd
 rw[←ho]
 have ha1: -1≤at_:=hd2
 have ha2:at_<900000:=by omega
 clear ho ho2 hK hU hUd hd1 hd2 hd3 hat hn hn2 hY hYd hsl
 go_enter Tryz.func304,Tryz.ntmps304
 go_wp2_with fail
 refine(Nv s _ (by omega)).mono ?_
 rintro e w2 ⟨rfl,hw2⟩
 subst hw2
 rw[←HU.out]
 go_wp2_with fail
 refine(Tryz.strings_LastIndexByte U 46 _ (by omega)).mono ?_
 rintro e w3 ⟨rfl,hw3⟩
 subst hw3
 rw[←HAT.out]
 have hN:=HN.out
 cases hk:num K with
 |some v=>
  have HV:=hid (yR K v hk)
  have HE:Hid (o=true):=by show _=_;rw[HO.out,hk];rfl
  clear hk
  go_wp2_with fail
  refine(bf Y _ hys).mono ?_
  rw[kU.out,HV.out]
  rintro e w4 ⟨rfl,hw4⟩
  subst hw4
  go_wp2
  go_ret
  exact⟨ak HE.out.symm,Below.refl _ _⟩
 |none=>
  have HV:=hid (yQ K hk)
  have HE:Hid (o=(decide (K≠[])&&eu 10 K)):=by show _=_;rw[HO.out,hk];rfl
  clear hk
  by_cases hke:K=[]
  ·have XP:(Y.toList==[])=true:=by rw[hem];exact decide_eq_true hke
   have TR:Y.toList=[]:=by simpa using XP
   have hem3:(Y.toList !=[])=false:=by rw[bne,XP];rfl
   have HE2:Hid (o=false):=by show _=_;rw[HE.out,decide_eq_false (fun h=>h hke)];rfl
   clear hem hke
   go_wp2_with fail
   refine(bf Y _ hys).mono ?_
   rw[kU.out,HV.out]
   rintro e w4 ⟨rfl,hw4⟩
   subst hw4
   go_wp2
   go_ret
   exact⟨ak HE2.out.symm,Below.refl _ _⟩
  have XP:(Y.toList==[])=false:=by rw[hem];exact decide_eq_false hke
  have TR:Y.toList.isEmpty=false:=by
   cases h:Y.toList with
   |nil=>rw[h]at XP;cases XP
   |cons _ _=>rfl
  have hem3:(Y.toList !=[])=true:=by rw[bne,XP];rfl
  have HE2:Hid (o=eu 10 K):=by show _=_;rw[HE.out,decide_eq_true hke];rfl
  clear hem hke
  go_wp2_with fail
  refine(bf Y _ hys).mono ?_
  rw[kU.out,HV.out]
  rintro e w4 ⟨rfl,hw4⟩
  subst hw4
  go_wp2_with fail
  refine(qA Y 10 _ hys).mono ?_
  rw[kU.out]
  rintro e w5 ⟨rfl,hw5⟩
  subst hw5
  go_wp2
  go_ret
  exact⟨ak HE2.out.symm,Below.refl _ _⟩
end Go.Proofs.YtgamccijegollaaGreatDoor.acO
namespace Go.Proofs.YtgamccijegollaaGreatDoor.BH
open Go.RowKit Base Dp dI oO Zx acN acO
def oN (o:Option Nat):Value:=match o with
 |some v=>.tuple #[.int .u32 v,.bool true]
 |none=>.tuple #[.int .u32 0,.bool false]
theorem dh (o:Option Nat) (h:o=none):oN o=.tuple #[.int .u32 0,.bool false]:=by rw[h];rfl
theorem yX (o:Option Nat) (v:Nat) (h:o=some v):oN o=.tuple #[.int .u32 v,.bool true]:=by rw[h];rfl
theorem drop_at {α:Type} (R:List α) (k:Nat) (p:α) (hk:k<R.length) (h:R[k]=p):R.drop k=p::R.drop (k+1):=by rw[←h];exact List.drop_eq_getElem_cons hk
theorem CW (most acc:Nat) (p:List UInt8) (r:List (List UInt8)) (h:num p=none):mZ most acc (p::r)=none:=by
 cases r<;>(unfold mZ;rw[h])
theorem ng (most acc:Nat) (p:List UInt8) (v:Nat) (h:num p=some v) (hv:v<most):mZ most acc [p]=some (acc+v):=by unfold mZ;rw[h];simp only;rw[if_pos hv]
theorem jV (most acc:Nat) (p:List UInt8) (v:Nat) (h:num p=some v) (hv:¬v<most):mZ most acc [p]=none:=by unfold mZ;rw[h];simp only;rw[if_neg hv]
theorem zK (most acc:Nat) (p q:List UInt8) (r:List (List UInt8)) (v:Nat) (h:num p=some v) (hv:v≤255):mZ most acc (p::q::r)=mZ (most / 256) (acc+v*(most / 256)) (q::r):=by
 conv=>lhs;unfold mZ
 rw[h];simp only;rw[if_pos hv]
theorem qj (most acc:Nat) (p q:List UInt8) (r:List (List UInt8)) (v:Nat) (h:num p=some v) (hv:¬v≤255):mZ most acc (p::q::r)=none:=by unfold mZ;rw[h];simp only;rw[if_neg hv]
theorem drop_end {α:Type} (R:List α) (k:Nat) (h:R.length=k):R.drop k=[]:=by subst h;exact List.drop_length
def mk:Nat→Nat
 |0=>4294967296
 |1=>16777216
 |2=>65536
 |3=>256
 |_=>1
theorem D9 (v m:Nat) (hm:m≤4294967296):v<m↔sat v<m:=by unfold sat;omega
theorem G9 (v:Nat) (h:sat v<4294967296):sat v=v:=by unfold sat at h⊢;omega
theorem parse_any (s:ByteArray) (w:World) (hs:s.size≤900000) (hM:Max w):Calls Tryz.prog 305 #[.string s] w fun e w'=>e=.returned (oN (NR s.data.toList))∧Below w.heap.size w w':=by
 have hsl:s.data.toList.length=s.size:=Array.length_toList
 obtain⟨S,hS⟩:∃S,S=NR s.data.toList:=⟨_,rfl⟩
 obtain⟨R,hR⟩:∃R,R=bZ (oH s.data.toList):=⟨_,rfl⟩
 have hS2:S=if R.length≤4 then mZ 4294967296 0 R else none:=by rw[hS,hR];rfl
 obtain⟨U,hU⟩:∃U,U=strOf (oH s.data.toList):=⟨_,rfl⟩
 have hUd:U.data.toList=oH s.data.toList:=by rw[hU];rfl
 have hul:(oH s.data.toList).length≤s.size:=by rw[←hsl];exact Fa _
 have hus:U.size≤900000:=by rw[hU,o9];omega
 have Qi:0<R.length:=by rw[hR];exact List.length_pos_iff.2 (qY _)
 have hrl:R.length≤900001:=by have:=rW (oH s.data.toList);rw[hR];omega
 have Bf:Hid (∀p ∈ R,p.length≤900000):=by
  intro p hp
  rw[hR]at hp
  have:=qK _ p hp
  omega
 have hUR:bZ U.data.toList=R:=by rw[hUd,hR]
 have HUR:=hid hUR
 have HU:=hid hU
 have SB:=hid hM
 have HS2:=hid hS2
 rw[←hS]
 clear hS hS2 hR hU hUd hul hUR hM hsl
 go_enter Tryz.func305,Tryz.ntmps305
 go_wp2_with fail
 refine(Nv s _ (by omega)).mono ?_
 rintro e w2 ⟨rfl,hw2⟩
 subst hw2
 rw[←HU.out]
 go_wp2_with fail
 refine(aiJ U _ (by omega) SB.out).mono ?_
 rw[HUR.out]
 rintro e w3 ⟨A,n,c,rfl,hn,hnc,hcm,hrd,hb⟩
 rw[←hn]at Qi hrl
 obtain⟨g,off,rfl,hg,hcell⟩:=hrd.spot Qi
 have aeW:=hid hcell
 have HB:=hid hb
 have HN:=hid hn
 unfold maxLen at hcm
 clear hn hrd hcell hb
 by_cases h4:n≤4
 ·have h4i:¬(3:Int)<(n:Int) - 1:=by omega
  have HW0:Hid (S=mZ 4294967296 0 (R.drop 0)):=by show _=_;rw[HS2.out,if_pos (by rw[←HN.out];exact h4),List.drop_zero]
  go_wp2
  obtain⟨q,hq⟩:∃q:Int,q=(n:Int) - 1:=⟨_,rfl⟩
  rw[←hq]
  have HQ:=hid hq
  clear hq h4i
  generalize decide ((3:Int)<q)=dd
  go_loopw [6,7,8,9,10,21] (fun va _ _ _ _ vk wr=>∃(k acc:Nat),k≤n∧vk=.int .i64 (k:Int)∧wr=w3∧va=.int .u64 (acc:Int)∧acc<4294967296∧Hid (k<n→acc+mk k≤4294967296)∧Hid (S=mZ (mk k) acc (R.drop k))) (fun _ _ _ _ _ vk _=>n - (intOf vk).toNat)
  case atStart=>exact⟨0,0,Nat.zero_le _,rfl,rfl,rfl,by omega,fun _=>Nat.le_refl _,HW0⟩
  case round=>
   clear HW0
   obtain⟨k,acc,hk,rfl,rfl,rfl,nG,HAC,HW⟩:=hrel
   by_cases hlt:k<n
   ·have hacc := HAC.out hlt
    have hk4:k=0∨k=1∨k=2∨k=3:=by omega
    clear HAC
    rcases hk4 with rfl|rfl|rfl|rfl
    ·simp only[mk]at hacc HW
     obtain⟨p,hp⟩:∃p,p=R[0]'(by rw[←HN.out];exact hlt):=⟨_,rfl⟩
     obtain⟨Y,hY⟩:∃Y,Y=strOf p:=⟨_,rfl⟩
     have hcl:=(aeW.out 0 (by rw[List.length_map,List.length_map,←HN.out];exact hlt))
     rw[List.getElem_map,List.getElem_map,←hp,←hY]at hcl
     try rw[Nat.add_zero]at hcl
     have kU:Hid (Y.data.toList=p):=by show _=_;rw[hY];rfl
     have hys:Y.size≤1073741824:=by
      rw[hY,o9]
      have:=Bf.out p (by rw[hp];exact List.getElem_mem _)
      omega
     have HDR:Hid (R.drop 0=p::R.drop 1):=drop_at R 0 p (by rw[←HN.out];exact hlt) hp.symm
     clear hp hY
     cases hnp:num p with
     |none=>
      have HV:=hid (yQ p hnp)
      have HE:=hid (dh S (by rw[HW.out,HDR.out];exact CW _ _ _ _ hnp))
      clear hnp
      go_wp2_with fail
      refine(bf Y _ hys).mono ?_
      rw[kU.out,HV.out]
      rintro e w4 ⟨rfl,hw4⟩
      subst hw4
      go_wp2
      go_ret2
      exact⟨by rw[HE.out];rfl,HB.out⟩
     | some v=>
      have HV:=hid (yR p v hnp)
      obtain⟨x,hx⟩:∃x,x=sat v:=⟨_,rfl⟩
      have hx2:x≤4294967296:=by rw[hx];unfold sat;omega
      rw[←hx]at HV
      by_cases hq:n=1
      ·have vC:R.drop 1=[]:=drop_end R _ (by rw[←HN.out];exact hq)
       have hA:((0:Int)==q)=true:=by have:=HQ.out;simp;omega
       have hB:¬(0:Int)<q:=by have:=HQ.out;omega
       have hC:4 - q=4:=by have:=HQ.out;omega
       have Cm:=hid hq
       clear hq
       by_cases hxm:x<4294967296
       ·have hxv:x=v:=by rw[hx];exact G9 v (by rw[←hx];omega)
        have HE:=hid ((show S=mZ 4294967296 acc [p]by rw[HW.out,HDR.out,vC]).trans (ng 4294967296 acc p v hnp ((D9 v 4294967296 (by omega)).2 (by rw[←hx];exact hxm))))
        have UE:=hid hxv
        have YM:=hid vC
        clear hnp hx hxv vC
        have eG:Hid ((acc:Int)+(x:Int)=((acc+v:Nat):Int)):=by show _=_;rw[UE.out];omega
        have hxi:(x:Int)<4294967296:=by omega
        have hx0:(0:Int)≤(x:Int):=by omega
        have hai:(acc:Int)+4294967296≤4294967296:=by omega
        have ha0:(0:Int)≤(acc:Int):=by omega
        have hvb:acc+v<4294967296:=by have:=UE.out;omega
        have Fh:=hid hvb
        clear hxm hx2 hacc hvb
        have Gf:Hid (S=mZ (mk 1) (acc+v) (R.drop 1)):=by show _=_;rw[YM.out];exact HE.out
        generalize (x:Int)=X at hxi hx0 eG HV
        generalize (acc:Int)=AC at hai ha0 eG⊢
        go_wp2_with fail
        refine(bf Y _ hys).mono ?_
        rw[kU.out,HV.out]
        rintro e w4 ⟨rfl,hw4⟩
        subst hw4
        go_wp2
        go_roundw
        case rel=>exact⟨1,acc+v,by have:=Cm.out;omega,by go_num,by first|rfl|trivial,by first|exact int_eq eG.out|(rw[←eG.out]),Fh.out,fun h=>absurd h (by have:=Cm.out;omega),Gf⟩
        case measure=>(have:=Cm.out;simp[intOf];omega)
       have HE:=hid (dh S ((show S=mZ 4294967296 acc [p]by rw[HW.out,HDR.out,vC]).trans (jV 4294967296 acc p v hnp (fun h=>hxm (by rw[hx];exact(D9 v 4294967296 (by omega)).1 h)))))
       have hxi:¬(x:Int)<4294967296:=by omega
       have hx0:(0:Int)≤(x:Int):=by omega
       have KN:(x:Int)≤4294967296:=by omega
       clear hnp hx vC hxm hx2
       generalize (x:Int)=X at hxi hx0 KN HV
       generalize (acc:Int)=AC
       go_wp2_with fail
       refine(bf Y _ hys).mono ?_
       rw[kU.out,HV.out]
       rintro e w4 ⟨rfl,hw4⟩
       subst hw4
       go_wp2
       go_ret2
       exact⟨by rw[HE.out];rfl,HB.out⟩
      have hA:((0:Int)==q)=false:=by have:=HQ.out;simp;omega
      have hB:(0:Int)<q:=by have:=HQ.out;omega
      have hlt2:1<n:=by omega
      obtain⟨p2,hp2⟩:∃p2,p2=R[1]'(by rw[←HN.out];exact hlt2):=⟨_,rfl⟩
      have lF:R.drop 1=p2::R.drop 2:=drop_at R 1 p2 (by rw[←HN.out];exact hlt2) hp2.symm
      have Cj:=hid hlt2
      clear hp2 hq hlt2
      by_cases hxm:x≤255
      ·have hxv:x=v:=by rw[hx];exact G9 v (by rw[←hx];omega)
       have HE:=hid ((show S=mZ 4294967296 acc (p::p2::R.drop 2)by rw[HW.out,HDR.out,lF]).trans (zK 4294967296 acc p p2 (R.drop 2) v hnp (by omega)))
       have OJ:=hid lF
       have UE:=hid hxv
       clear hnp hx hxv lF
       have eG:Hid ((acc:Int)+(x:Int)*16777216=((acc+v*16777216:Nat):Int)):=by show _=_;rw[UE.out];omega
       have hxi:(x:Int)≤255:=by omega
       have hx0:(0:Int)≤(x:Int):=by omega
       have hai:(acc:Int)+4294967296≤4294967296:=by omega
       have ha0:(0:Int)≤(acc:Int):=by omega
       have Fh:Hid (acc+v*16777216+16777216≤4294967296):=by have:=UE.out;show _≤_;omega
       have Gf:Hid (S=mZ (mk 1) (acc+v*16777216) (R.drop 1)):=by show _=_;rw[OJ.out];exact HE.out
       clear hxm hx2 hacc
       generalize (x:Int)=X at hxi hx0 eG HV
       generalize (acc:Int)=AC at hai ha0 eG⊢
       go_wp2_with fail
       refine(bf Y _ hys).mono ?_
       rw[kU.out,HV.out]
       rintro e w4 ⟨rfl,hw4⟩
       subst hw4
       go_wp2
       go_roundw
       case rel=>exact⟨1,acc+v*16777216,by have:=Cj.out;omega,by go_num,by first|rfl|trivial,by first|exact int_eq eG.out|(rw[←eG.out]),by have:=Fh.out;omega,fun _=>Fh.out,Gf⟩
       case measure=>(have:=Cj.out;simp[intOf];omega)
      have HE:=hid (dh S ((show S=mZ 4294967296 acc (p::p2::R.drop 2)by rw[HW.out,HDR.out,lF]).trans (qj 4294967296 acc p p2 (R.drop 2) v hnp (fun h=>hxm (by rw[hx];unfold sat;omega)))))
      have hxi:¬(x:Int)≤255:=by omega
      have Qy:(255:Int)<(x:Int):=by omega
      have KN:(x:Int)≤4294967296:=by omega
      clear hnp hx lF hxm hx2
      generalize (x:Int)=X at hxi Qy KN HV
      generalize (acc:Int)=AC
      go_wp2_with fail
      refine(bf Y _ hys).mono ?_
      rw[kU.out,HV.out]
      rintro e w4 ⟨rfl,hw4⟩
      subst hw4
      go_wp2
      go_ret2
      exact⟨by rw[HE.out];rfl,HB.out⟩
    ·simp only[mk]at hacc HW
     obtain⟨p,hp⟩:∃p,p=R[1]'(by rw[←HN.out];exact hlt):=⟨_,rfl⟩
     obtain⟨Y,hY⟩:∃Y,Y=strOf p:=⟨_,rfl⟩
     have hcl:=(aeW.out 1 (by rw[List.length_map,List.length_map,←HN.out];exact hlt))
     rw[List.getElem_map,List.getElem_map,←hp,←hY]at hcl
     try rw[Nat.add_zero]at hcl
     have kU:Hid (Y.data.toList=p):=by show _=_;rw[hY];rfl
     have hys:Y.size≤1073741824:=by
      rw[hY,o9]
      have:=Bf.out p (by rw[hp];exact List.getElem_mem _)
      omega
     have HDR:Hid (R.drop 1=p::R.drop 2):=drop_at R 1 p (by rw[←HN.out];exact hlt) hp.symm
     clear hp hY
     cases hnp:num p with
     |none=>
      have HV:=hid (yQ p hnp)
      have HE:=hid (dh S (by rw[HW.out,HDR.out];exact CW _ _ _ _ hnp))
      clear hnp
      go_wp2_with fail
      refine(bf Y _ hys).mono ?_
      rw[kU.out,HV.out]
      rintro e w4 ⟨rfl,hw4⟩
      subst hw4
      go_wp2
      go_ret2
      exact⟨by rw[HE.out];rfl,HB.out⟩
     | some v=>
      have HV:=hid (yR p v hnp)
      obtain⟨x,hx⟩:∃x,x=sat v:=⟨_,rfl⟩
      have hx2:x≤4294967296:=by rw[hx];unfold sat;omega
      rw[←hx]at HV
      by_cases hq:n=2
      ·have vC:R.drop 2=[]:=drop_end R _ (by rw[←HN.out];exact hq)
       have hA:((1:Int)==q)=true:=by have:=HQ.out;simp;omega
       have hB:¬(1:Int)<q:=by have:=HQ.out;omega
       have hC:4 - q=3:=by have:=HQ.out;omega
       have Cm:=hid hq
       clear hq
       by_cases hxm:x<16777216
       ·have hxv:x=v:=by rw[hx];exact G9 v (by rw[←hx];omega)
        have HE:=hid ((show S=mZ 16777216 acc [p]by rw[HW.out,HDR.out,vC]).trans (ng 16777216 acc p v hnp ((D9 v 16777216 (by omega)).2 (by rw[←hx];exact hxm))))
        have UE:=hid hxv
        have YM:=hid vC
        clear hnp hx hxv vC
        have eG:Hid ((acc:Int)+(x:Int)=((acc+v:Nat):Int)):=by show _=_;rw[UE.out];omega
        have hxi:(x:Int)<16777216:=by omega
        have hx0:(0:Int)≤(x:Int):=by omega
        have hai:(acc:Int)+16777216≤4294967296:=by omega
        have ha0:(0:Int)≤(acc:Int):=by omega
        have hvb:acc+v<4294967296:=by have:=UE.out;omega
        have Fh:=hid hvb
        clear hxm hx2 hacc hvb
        have Gf:Hid (S=mZ (mk 2) (acc+v) (R.drop 2)):=by show _=_;rw[YM.out];exact HE.out
        generalize (x:Int)=X at hxi hx0 eG HV
        generalize (acc:Int)=AC at hai ha0 eG⊢
        go_wp2_with fail
        refine(bf Y _ hys).mono ?_
        rw[kU.out,HV.out]
        rintro e w4 ⟨rfl,hw4⟩
        subst hw4
        go_wp2
        go_roundw
        case rel=>exact⟨2,acc+v,by have:=Cm.out;omega,by go_num,by first|rfl|trivial,by first|exact int_eq eG.out|(rw[←eG.out]),Fh.out,fun h=>absurd h (by have:=Cm.out;omega),Gf⟩
        case measure=>(have:=Cm.out;simp[intOf];omega)
       have HE:=hid (dh S ((show S=mZ 16777216 acc [p]by rw[HW.out,HDR.out,vC]).trans (jV 16777216 acc p v hnp (fun h=>hxm (by rw[hx];exact(D9 v 16777216 (by omega)).1 h)))))
       have hxi:¬(x:Int)<16777216:=by omega
       have hx0:(0:Int)≤(x:Int):=by omega
       have KN:(x:Int)≤4294967296:=by omega
       clear hnp hx vC hxm hx2
       generalize (x:Int)=X at hxi hx0 KN HV
       generalize (acc:Int)=AC
       go_wp2_with fail
       refine(bf Y _ hys).mono ?_
       rw[kU.out,HV.out]
       rintro e w4 ⟨rfl,hw4⟩
       subst hw4
       go_wp2
       go_ret2
       exact⟨by rw[HE.out];rfl,HB.out⟩
      have hA:((1:Int)==q)=false:=by have:=HQ.out;simp;omega
      have hB:(1:Int)<q:=by have:=HQ.out;omega
      have hlt2:2<n:=by omega
      obtain⟨p2,hp2⟩:∃p2,p2=R[2]'(by rw[←HN.out];exact hlt2):=⟨_,rfl⟩
      have lF:R.drop 2=p2::R.drop 3:=drop_at R 2 p2 (by rw[←HN.out];exact hlt2) hp2.symm
      have Cj:=hid hlt2
      clear hp2 hq hlt2
      by_cases hxm:x≤255
      ·have hxv:x=v:=by rw[hx];exact G9 v (by rw[←hx];omega)
       have HE:=hid ((show S=mZ 16777216 acc (p::p2::R.drop 3)by rw[HW.out,HDR.out,lF]).trans (zK 16777216 acc p p2 (R.drop 3) v hnp (by omega)))
       have OJ:=hid lF
       have UE:=hid hxv
       clear hnp hx hxv lF
       have eG:Hid ((acc:Int)+(x:Int)*65536=((acc+v*65536:Nat):Int)):=by show _=_;rw[UE.out];omega
       have hxi:(x:Int)≤255:=by omega
       have hx0:(0:Int)≤(x:Int):=by omega
       have hai:(acc:Int)+16777216≤4294967296:=by omega
       have ha0:(0:Int)≤(acc:Int):=by omega
       have Fh:Hid (acc+v*65536+65536≤4294967296):=by have:=UE.out;show _≤_;omega
       have Gf:Hid (S=mZ (mk 2) (acc+v*65536) (R.drop 2)):=by show _=_;rw[OJ.out];exact HE.out
       clear hxm hx2 hacc
       generalize (x:Int)=X at hxi hx0 eG HV
       generalize (acc:Int)=AC at hai ha0 eG⊢
       go_wp2_with fail
       refine(bf Y _ hys).mono ?_
       rw[kU.out,HV.out]
       rintro e w4 ⟨rfl,hw4⟩
       subst hw4
       go_wp2
       go_roundw
       case rel=>exact⟨2,acc+v*65536,by have:=Cj.out;omega,by go_num,by first|rfl|trivial,by first|exact int_eq eG.out|(rw[←eG.out]),by have:=Fh.out;omega,fun _=>Fh.out,Gf⟩
       case measure=>(have:=Cj.out;simp[intOf];omega)
      have HE:=hid (dh S ((show S=mZ 16777216 acc (p::p2::R.drop 3)by rw[HW.out,HDR.out,lF]).trans (qj 16777216 acc p p2 (R.drop 3) v hnp (fun h=>hxm (by rw[hx];unfold sat;omega)))))
      have hxi:¬(x:Int)≤255:=by omega
      have Qy:(255:Int)<(x:Int):=by omega
      have KN:(x:Int)≤4294967296:=by omega
      clear hnp hx lF hxm hx2
      generalize (x:Int)=X at hxi Qy KN HV
      generalize (acc:Int)=AC
      go_wp2_with fail
      refine(bf Y _ hys).mono ?_
      rw[kU.out,HV.out]
      rintro e w4 ⟨rfl,hw4⟩
      subst hw4
      go_wp2
      go_ret2
      exact⟨by rw[HE.out];rfl,HB.out⟩
    ·simp only[mk]at hacc HW
     obtain⟨p,hp⟩:∃p,p=R[2]'(by rw[←HN.out];exact hlt):=⟨_,rfl⟩
     obtain⟨Y,hY⟩:∃Y,Y=strOf p:=⟨_,rfl⟩
     have hcl:=(aeW.out 2 (by rw[List.length_map,List.length_map,←HN.out];exact hlt))
     rw[List.getElem_map,List.getElem_map,←hp,←hY]at hcl
     try rw[Nat.add_zero]at hcl
     have kU:Hid (Y.data.toList=p):=by show _=_;rw[hY];rfl
     have hys:Y.size≤1073741824:=by
      rw[hY,o9]
      have:=Bf.out p (by rw[hp];exact List.getElem_mem _)
      omega
     have HDR:Hid (R.drop 2=p::R.drop 3):=drop_at R 2 p (by rw[←HN.out];exact hlt) hp.symm
     clear hp hY
     cases hnp:num p with
     |none=>
      have HV:=hid (yQ p hnp)
      have HE:=hid (dh S (by rw[HW.out,HDR.out];exact CW _ _ _ _ hnp))
      clear hnp
      go_wp2_with fail
      refine(bf Y _ hys).mono ?_
      rw[kU.out,HV.out]
      rintro e w4 ⟨rfl,hw4⟩
      subst hw4
      go_wp2
      go_ret2
      exact⟨by rw[HE.out];rfl,HB.out⟩
     | some v=>
      have HV:=hid (yR p v hnp)
      obtain⟨x,hx⟩:∃x,x=sat v:=⟨_,rfl⟩
      have hx2:x≤4294967296:=by rw[hx];unfold sat;omega
      rw[←hx]at HV
      by_cases hq:n=3
      ·have vC:R.drop 3=[]:=drop_end R _ (by rw[←HN.out];exact hq)
       have hA:((2:Int)==q)=true:=by have:=HQ.out;simp;omega
       have hB:¬(2:Int)<q:=by have:=HQ.out;omega
       have hC:4 - q=2:=by have:=HQ.out;omega
       have Cm:=hid hq
       clear hq
       by_cases hxm:x<65536
       ·have hxv:x=v:=by rw[hx];exact G9 v (by rw[←hx];omega)
        have HE:=hid ((show S=mZ 65536 acc [p]by rw[HW.out,HDR.out,vC]).trans (ng 65536 acc p v hnp ((D9 v 65536 (by omega)).2 (by rw[←hx];exact hxm))))
        have UE:=hid hxv
        have YM:=hid vC
        clear hnp hx hxv vC
        have eG:Hid ((acc:Int)+(x:Int)=((acc+v:Nat):Int)):=by show _=_;rw[UE.out];omega
        have hxi:(x:Int)<65536:=by omega
        have hx0:(0:Int)≤(x:Int):=by omega
        have hai:(acc:Int)+65536≤4294967296:=by omega
        have ha0:(0:Int)≤(acc:Int):=by omega
        have hvb:acc+v<4294967296:=by have:=UE.out;omega
        have Fh:=hid hvb
        clear hxm hx2 hacc hvb
        have Gf:Hid (S=mZ (mk 3) (acc+v) (R.drop 3)):=by show _=_;rw[YM.out];exact HE.out
        generalize (x:Int)=X at hxi hx0 eG HV
        generalize (acc:Int)=AC at hai ha0 eG⊢
        go_wp2_with fail
        refine(bf Y _ hys).mono ?_
        rw[kU.out,HV.out]
        rintro e w4 ⟨rfl,hw4⟩
        subst hw4
        go_wp2
        go_roundw
        case rel=>exact⟨3,acc+v,by have:=Cm.out;omega,by go_num,by first|rfl|trivial,by first|exact int_eq eG.out|(rw[←eG.out]),Fh.out,fun h=>absurd h (by have:=Cm.out;omega),Gf⟩
        case measure=>(have:=Cm.out;simp[intOf];omega)
       have HE:=hid (dh S ((show S=mZ 65536 acc [p]by rw[HW.out,HDR.out,vC]).trans (jV 65536 acc p v hnp (fun h=>hxm (by rw[hx];exact(D9 v 65536 (by omega)).1 h)))))
       have hxi:¬(x:Int)<65536:=by omega
       have hx0:(0:Int)≤(x:Int):=by omega
       have KN:(x:Int)≤4294967296:=by omega
       clear hnp hx vC hxm hx2
       generalize (x:Int)=X at hxi hx0 KN HV
       generalize (acc:Int)=AC
       go_wp2_with fail
       refine(bf Y _ hys).mono ?_
       rw[kU.out,HV.out]
       rintro e w4 ⟨rfl,hw4⟩
       subst hw4
       go_wp2
       go_ret2
       exact⟨by rw[HE.out];rfl,HB.out⟩
      have hA:((2:Int)==q)=false:=by have:=HQ.out;simp;omega
      have hB:(2:Int)<q:=by have:=HQ.out;omega
      have hlt2:3<n:=by omega
      obtain⟨p2,hp2⟩:∃p2,p2=R[3]'(by rw[←HN.out];exact hlt2):=⟨_,rfl⟩
      have lF:R.drop 3=p2::R.drop 4:=drop_at R 3 p2 (by rw[←HN.out];exact hlt2) hp2.symm
      have Cj:=hid hlt2
      clear hp2 hq hlt2
      by_cases hxm:x≤255
      ·have hxv:x=v:=by rw[hx];exact G9 v (by rw[←hx];omega)
       have HE:=hid ((show S=mZ 65536 acc (p::p2::R.drop 4)by rw[HW.out,HDR.out,lF]).trans (zK 65536 acc p p2 (R.drop 4) v hnp (by omega)))
       have OJ:=hid lF
       have UE:=hid hxv
       clear hnp hx hxv lF
       have eG:Hid ((acc:Int)+(x:Int)*256=((acc+v*256:Nat):Int)):=by show _=_;rw[UE.out];omega
       have hxi:(x:Int)≤255:=by omega
       have hx0:(0:Int)≤(x:Int):=by omega
       have hai:(acc:Int)+65536≤4294967296:=by omega
       have ha0:(0:Int)≤(acc:Int):=by omega
       have Fh:Hid (acc+v*256+256≤4294967296):=by have:=UE.out;show _≤_;omega
       have Gf:Hid (S=mZ (mk 3) (acc+v*256) (R.drop 3)):=by show _=_;rw[OJ.out];exact HE.out
       clear hxm hx2 hacc
       generalize (x:Int)=X at hxi hx0 eG HV
       generalize (acc:Int)=AC at hai ha0 eG⊢
       go_wp2_with fail
       refine(bf Y _ hys).mono ?_
       rw[kU.out,HV.out]
       rintro e w4 ⟨rfl,hw4⟩
       subst hw4
       go_wp2
       go_roundw
       case rel=>exact⟨3,acc+v*256,by have:=Cj.out;omega,by go_num,by first|rfl|trivial,by first|exact int_eq eG.out|(rw[←eG.out]),by have:=Fh.out;omega,fun _=>Fh.out,Gf⟩
       case measure=>(have:=Cj.out;simp[intOf];omega)
      have HE:=hid (dh S ((show S=mZ 65536 acc (p::p2::R.drop 4)by rw[HW.out,HDR.out,lF]).trans (qj 65536 acc p p2 (R.drop 4) v hnp (fun h=>hxm (by rw[hx];unfold sat;omega)))))
      have hxi:¬(x:Int)≤255:=by omega
      have Qy:(255:Int)<(x:Int):=by omega
      have KN:(x:Int)≤4294967296:=by omega
      clear hnp hx lF hxm hx2
      generalize (x:Int)=X at hxi Qy KN HV
      generalize (acc:Int)=AC
      go_wp2_with fail
      refine(bf Y _ hys).mono ?_
      rw[kU.out,HV.out]
      rintro e w4 ⟨rfl,hw4⟩
      subst hw4
      go_wp2
      go_ret2
      exact⟨by rw[HE.out];rfl,HB.out⟩
    simp only[mk]at hacc HW
    obtain⟨p,hp⟩:∃p,p=R[3]'(by rw[←HN.out];exact hlt):=⟨_,rfl⟩
    obtain⟨Y,hY⟩:∃Y,Y=strOf p:=⟨_,rfl⟩
    have hcl:=(aeW.out 3 (by rw[List.length_map,List.length_map,←HN.out];exact hlt))
    rw[List.getElem_map,List.getElem_map,←hp,←hY]at hcl
    try rw[Nat.add_zero]at hcl
    have kU:Hid (Y.data.toList=p):=by show _=_;rw[hY];rfl
    have hys:Y.size≤1073741824:=by
     rw[hY,o9]
     have:=Bf.out p (by rw[hp];exact List.getElem_mem _)
     omega
    have HDR:Hid (R.drop 3=p::R.drop 4):=drop_at R 3 p (by rw[←HN.out];exact hlt) hp.symm
    clear hp hY
    cases hnp:num p with
    |none=>
     have HV:=hid (yQ p hnp)
     have HE:=hid (dh S (by rw[HW.out,HDR.out];exact CW _ _ _ _ hnp))
     clear hnp
     go_wp2_with fail
     refine(bf Y _ hys).mono ?_
     rw[kU.out,HV.out]
     rintro e w4 ⟨rfl,hw4⟩
     subst hw4
     go_wp2
     go_ret2
     exact⟨by rw[HE.out];rfl,HB.out⟩
    | some v=>
     have HV:=hid (yR p v hnp)
     obtain⟨x,hx⟩:∃x,x=sat v:=⟨_,rfl⟩
     have hx2:x≤4294967296:=by rw[hx];unfold sat;omega
     rw[←hx]at HV
     by_cases hq:n=4
     ·have vC:R.drop 4=[]:=drop_end R _ (by rw[←HN.out];exact hq)
      have hA:((3:Int)==q)=true:=by have:=HQ.out;simp;omega
      have hB:¬(3:Int)<q:=by have:=HQ.out;omega
      have hC:4 - q=1:=by have:=HQ.out;omega
      have Cm:=hid hq
      clear hq
      by_cases hxm:x<256
      ·have hxv:x=v:=by rw[hx];exact G9 v (by rw[←hx];omega)
       have HE:=hid ((show S=mZ 256 acc [p]by rw[HW.out,HDR.out,vC]).trans (ng 256 acc p v hnp ((D9 v 256 (by omega)).2 (by rw[←hx];exact hxm))))
       have UE:=hid hxv
       have YM:=hid vC
       clear hnp hx hxv vC
       have eG:Hid ((acc:Int)+(x:Int)=((acc+v:Nat):Int)):=by show _=_;rw[UE.out];omega
       have hxi:(x:Int)<256:=by omega
       have hx0:(0:Int)≤(x:Int):=by omega
       have hai:(acc:Int)+256≤4294967296:=by omega
       have ha0:(0:Int)≤(acc:Int):=by omega
       have hvb:acc+v<4294967296:=by have:=UE.out;omega
       have Fh:=hid hvb
       clear hxm hx2 hacc hvb
       have Gf:Hid (S=mZ (mk 4) (acc+v) (R.drop 4)):=by show _=_;rw[YM.out];exact HE.out
       generalize (x:Int)=X at hxi hx0 eG HV
       generalize (acc:Int)=AC at hai ha0 eG⊢
       go_wp2_with fail
       refine(bf Y _ hys).mono ?_
       rw[kU.out,HV.out]
       rintro e w4 ⟨rfl,hw4⟩
       subst hw4
       go_wp2
       go_roundw
       case rel=>exact⟨4,acc+v,by have:=Cm.out;omega,by go_num,by first|rfl|trivial,by first|exact int_eq eG.out|(rw[←eG.out]),Fh.out,fun h=>absurd h (by have:=Cm.out;omega),Gf⟩
       case measure=>(have:=Cm.out;simp[intOf];omega)
      have HE:=hid (dh S ((show S=mZ 256 acc [p]by rw[HW.out,HDR.out,vC]).trans (jV 256 acc p v hnp (fun h=>hxm (by rw[hx];exact(D9 v 256 (by omega)).1 h)))))
      have hxi:¬(x:Int)<256:=by omega
      have hx0:(0:Int)≤(x:Int):=by omega
      have KN:(x:Int)≤4294967296:=by omega
      clear hnp hx vC hxm hx2
      generalize (x:Int)=X at hxi hx0 KN HV
      generalize (acc:Int)=AC
      go_wp2_with fail
      refine(bf Y _ hys).mono ?_
      rw[kU.out,HV.out]
      rintro e w4 ⟨rfl,hw4⟩
      subst hw4
      go_wp2
      go_ret2
      exact⟨by rw[HE.out];rfl,HB.out⟩
     exact absurd hlt (by omega)
   obtain rfl:k=n:=by omega
   have HE:=hid (yX S acc (by rw[HW.out,drop_end R k HN.out.symm];rfl))
   have ha0:(0:Int)≤(acc:Int):=by omega
   have hai:(acc:Int)<4294967296:=by omega
   clear nG
   generalize (acc:Int)=AC at ha0 hai HE⊢
   go_wp2
   go_ret2
   exact⟨by rw[HE.out];rfl,HB.out⟩
 have h4i:(3:Int)<(n:Int) - 1:=by omega
 have HE:=hid (dh S (by rw[HS2.out,if_neg (by rw[←HN.out];exact h4)]))
 go_wp2
 go_ret2
 exact⟨by rw[HE.out];rfl,HB.out⟩
end Go.Proofs.YtgamccijegollaaGreatDoor.BH
namespace Go.Proofs.YtgamccijegollaaGreatDoor.Tab
open Go.RowKit Base
def Pow (w:World):Prop:=Lib.TabIs Tryz.prog w "internal/strconv.uint64pow10" .u64 Lib.pow10Tab
theorem G6:Tryz.prog.globalNamed "internal/strconv.uint64pow10" =some 3:=by kernel_rfl
theorem pow_of {W:World} {l:List (String×DataW Unit)} (h:laidMet Tryz.prog l W) (hm:("internal/strconv.uint64pow10",Lib.tabData .u64 Lib.pow10Tab) ∈ l):Pow W:=by
 obtain⟨g',t',cs,fuel,p,hg',ht',hvar,hd⟩:=Lib.laidMet.reads h hm
 obtain rfl:=Option.some.inj (G6.symm.trans hg')
 obtain rfl:=Option.some.inj ((show(Tryz.prog.globals[3]?).map (·.type)=some 338 by kernel_rfl).symm.trans ht')
 show World.var? _ _ _=_
 rw[hvar,←Lib.cells_of_tab (k:=.u64) (zs:=Lib.pow10Tab) Tryz.underlying338 Tryz.underlying78 (by kernel_rfl) (by kernel_rfl) hd]
theorem Pow.below {w w':World} (h:Pow w) (hb:Below w.heap.size w w'):Pow w':=Joins.tab_stays G6 h hb (Nat.le_refl _)
theorem below_grow (w:World) (k:Nat) (os:Array Obj):Below w.heap.size w (Sort.grow (w.drewN k) os):=
 ⟨rfl,rfl,rfl,by rw[Sort.size_grow];exact Nat.le_add_right _ _,fun g hg=>by
  show(w.heap++os)[g]?=w.heap[g]?
  rw[Array.getElem?_append_left hg]⟩
theorem ami (n:Nat):Lib.itoa (n:Int)=Lib.decDigits n:=by unfold Lib.itoa;rw[if_neg (by omega)];simp
theorem I4 (n:Nat) (hn:n≤9223372036854775807) (w:World) (hT:Pow w):
  Calls Tryz.prog 159 #[.int .i64 (n:Int)] w fun e w'=>e=.returned (.string (strOf (Lib.decDigits n)))∧Below w.heap.size w w':=
 (Tryz.strconv_Itoa (n:Int) (by omega) (by omega) w hT).mono fun e w' ⟨he,k,os,hw⟩=>⟨by rw[he,ami];rfl,by rw[hw];exact below_grow w k os⟩
end Go.Proofs.YtgamccijegollaaGreatDoor.Tab
namespace Go.Proofs.YtgamccijegollaaGreatDoor.Gl
open Go.RowKit Base Dp dI oO Zx acN BH
theorem uX (k:Nat):∀n,n<10^(k+1)→(Lib.decDigits n).length≤k+1:=by
 induction k with
 |zero=>intro n h;rw[Lib.decDigits,dif_pos (by omega)];simp
 |succ k ih=>
  intro n h
  rw[Lib.decDigits]
  split
  ·simp
  have:=ih (n / 10) (by rw[Nat.pow_succ]at h;omega)
  rw[List.length_append]
  simp
  omega
def p1 (n:Nat):List UInt8:=Lib.decDigits (n / 16777216)++[46]
def p2 (n:Nat):List UInt8:=p1 n++Lib.decDigits (n / 65536%256)++[46]
def p3 (n:Nat):List UInt8:=p2 n++Lib.decDigits (n / 256%256)++[46]
def pr (n:Nat):List UInt8:=p3 n++Lib.decDigits (n%256)
theorem I5 (n:Nat) (h:n<256):(Lib.decDigits n).length≤3:=uX 2 n (by omega)
theorem ad5 (n:Nat) (h:n<4294967296):(p1 n).length≤4:=by have:=I5 (n / 16777216) (by omega);simp[p1];omega
theorem ad6 (n:Nat) (h:n<4294967296):(p2 n).length≤8:=by have:=I5 (n / 65536%256) (by omega);have:=ad5 n h;simp[p2];omega
theorem ad7 (n:Nat) (h:n<4294967296):(p3 n).length≤12:=by have:=I5 (n / 256%256) (by omega);have:=ad6 n h;simp[p3];omega
theorem pr_len (n:Nat) (h:n<4294967296):(pr n).length≤15:=by have:=I5 (n%256) (by omega);have:=ad7 n h;simp[pr];omega
theorem Xe (a:Nat) (h:a<4294967296):bits .and .u32 (a:Int) 255=((a%256:Nat):Int):=by
 have:=u32_and_nat a 255 h (by omega)
 rw[show((255:Nat):Int)=255 from rfl]at this
 rw[this]
 congr 1
 exact Nat.and_two_pow_sub_one_eq_mod a 8
def pj (n:Nat):Nat→List UInt8
 |0=>[]
 |1=>p1 n
 |2=>p2 n
 |3=>p3 n
 |_=>pr n
theorem print_any (n:Nat) (hn:n<4294967296) (w:World) (hT:Tab.Pow w):Calls Tryz.prog 306 #[.int .u32 (n:Int)] w fun e w'=>e=.returned (.string (strOf (pr n)))∧Below w.heap.size w w':=by
 have HT:=hid hT
 have hni:(n:Int)<4294967296:=by omega
 have hn0:0≤(n:Int):=by omega
 have vW:Hid ((p1 n).length≤4∧(p2 n).length≤8∧(p3 n).length≤12):=⟨ad5 n hn,ad6 n hn,ad7 n hn⟩
 clear hT
 go_enter Tryz.func306,Tryz.ntmps306
 go_wp2
 go_loopw [3,4] (fun vo vs wr=>∃j:Nat,j≤4∧vo=.string (strOf (pj n j))∧vs=.int .i64 (24 - 8*(j:Int))∧Hid (Below w.heap.size w wr)) (fun _ vs _=>(intOf vs+8).toNat)
 case atStart=>exact⟨0,by omega,rfl,rfl,Below.refl _ _⟩
 case round=>
  obtain⟨j,hj,rfl,rfl,HB⟩:=hrel
  have hj5:j=0∨j=1∨j=2∨j=3∨j=4:=by omega
  rcases hj5 with rfl|rfl|rfl|rfl|rfl
  ·obtain⟨b,hb⟩:∃b,b=n / 16777216:=⟨_,rfl⟩
   have hb256:b<256:=by omega
   obtain⟨a,ha⟩:∃a,a=n / 16777216:=⟨_,rfl⟩
   have hal:a<4294967296:=by omega
   have hsh:(n:Int) / 16777216=(a:Int):=by omega
   have hand:bits .and .u32 (a:Int) 255=(b:Int):=by rw[Xe a hal];omega
   have hbl:=I5 b hb256
   have Z4:=hid hbl
   have Bd:=hid hb
   have hai:(a:Int)<4294967296:=by omega
   have hbi:(b:Int)<256:=by omega
   have a1:∀w:World,(Op.stringOp .add (strOf (pj n 0)) (strOf (Lib.decDigits b))).run Tryz.prog w=.ok (.string (strOf (pj n 0++Lib.decDigits b))) w:=fun w=>aci _ _ w (by have h1:=vW.out;have h2:=Z4.out;simp only[pj]at h1⊢;simp;omega)
   have a2:∀w:World,(Op.stringOp .add (strOf (pj n 0++Lib.decDigits b)) ⟨#[46]⟩).run Tryz.prog w=.ok (.string (strOf (pj n 1))) w:=fun w=>by
    have e:pj n 1=pj n 0++Lib.decDigits b++[46]:=by rw[Bd.out];rfl
    rw[e]
    exact aci _ [46] w (by have h1:=vW.out;have h2:=Z4.out;simp only[pj]at h1⊢;simp;omega)
   clear hb ha hal hbl
   generalize hX:strOf (pj n 0)=X at a1⊢
   generalize hY:strOf (Lib.decDigits b)=Y at a1
   generalize hZ:strOf (pj n 0++Lib.decDigits b)=Z at a1 a2
   generalize hV:strOf (pj n 1)=V at a2
   have kU:=hid hY
   have HXX:=hid hX
   have HZZ:=hid hZ
   have HVV:=hid hV
   clear hV
   clear hX hY hZ
   go_wp2_with fail
   refine(Tab.I4 b (by omega) _ (HT.out.below HB.out)).mono ?_
   rw[kU.out]
   rintro e w2 ⟨rfl,hb2⟩
   have HB2:Hid (Below w.heap.size w w2):=bel HB.out hb2
   clear hb2
   go_wp2
   go_roundw
   case rel=>exact⟨1,by omega,by rw[HVV.out],rfl,HB2⟩
   case measure=>simp[intOf]
  ·obtain⟨b,hb⟩:∃b,b=n / 65536%256:=⟨_,rfl⟩
   have hb256:b<256:=by omega
   obtain⟨a,ha⟩:∃a,a=n / 65536:=⟨_,rfl⟩
   have hal:a<4294967296:=by omega
   have hsh:(n:Int) / 65536=(a:Int):=by omega
   have hand:bits .and .u32 (a:Int) 255=(b:Int):=by rw[Xe a hal];omega
   have hbl:=I5 b hb256
   have Z4:=hid hbl
   have Bd:=hid hb
   have hai:(a:Int)<4294967296:=by omega
   have hbi:(b:Int)<256:=by omega
   have a1:∀w:World,(Op.stringOp .add (strOf (pj n 1)) (strOf (Lib.decDigits b))).run Tryz.prog w=.ok (.string (strOf (pj n 1++Lib.decDigits b))) w:=fun w=>aci _ _ w (by have h1:=vW.out;have h2:=Z4.out;simp only[pj]at h1⊢;simp;omega)
   have a2:∀w:World,(Op.stringOp .add (strOf (pj n 1++Lib.decDigits b)) ⟨#[46]⟩).run Tryz.prog w=.ok (.string (strOf (pj n 2))) w:=fun w=>by
    have e:pj n 2=pj n 1++Lib.decDigits b++[46]:=by rw[Bd.out];rfl
    rw[e]
    exact aci _ [46] w (by have h1:=vW.out;have h2:=Z4.out;simp only[pj]at h1⊢;simp;omega)
   clear hb ha hal hbl
   generalize hX:strOf (pj n 1)=X at a1⊢
   generalize hY:strOf (Lib.decDigits b)=Y at a1
   generalize hZ:strOf (pj n 1++Lib.decDigits b)=Z at a1 a2
   generalize hV:strOf (pj n 2)=V at a2
   have kU:=hid hY
   have HXX:=hid hX
   have HZZ:=hid hZ
   have HVV:=hid hV
   clear hV
   clear hX hY hZ
   go_wp2_with fail
   refine(Tab.I4 b (by omega) _ (HT.out.below HB.out)).mono ?_
   rw[kU.out]
   rintro e w2 ⟨rfl,hb2⟩
   have HB2:Hid (Below w.heap.size w w2):=bel HB.out hb2
   clear hb2
   go_wp2
   go_roundw
   case rel=>exact⟨2,by omega,by rw[HVV.out],rfl,HB2⟩
   case measure=>simp[intOf]
  ·obtain⟨b,hb⟩:∃b,b=n / 256%256:=⟨_,rfl⟩
   have hb256:b<256:=by omega
   obtain⟨a,ha⟩:∃a,a=n / 256:=⟨_,rfl⟩
   have hal:a<4294967296:=by omega
   have hsh:(n:Int) / 256=(a:Int):=by omega
   have hand:bits .and .u32 (a:Int) 255=(b:Int):=by rw[Xe a hal];omega
   have hbl:=I5 b hb256
   have Z4:=hid hbl
   have Bd:=hid hb
   have hai:(a:Int)<4294967296:=by omega
   have hbi:(b:Int)<256:=by omega
   have a1:∀w:World,(Op.stringOp .add (strOf (pj n 2)) (strOf (Lib.decDigits b))).run Tryz.prog w=.ok (.string (strOf (pj n 2++Lib.decDigits b))) w:=fun w=>aci _ _ w (by have h1:=vW.out;have h2:=Z4.out;simp only[pj]at h1⊢;simp;omega)
   have a2:∀w:World,(Op.stringOp .add (strOf (pj n 2++Lib.decDigits b)) ⟨#[46]⟩).run Tryz.prog w=.ok (.string (strOf (pj n 3))) w:=fun w=>by
    have e:pj n 3=pj n 2++Lib.decDigits b++[46]:=by rw[Bd.out];rfl
    rw[e]
    exact aci _ [46] w (by have h1:=vW.out;have h2:=Z4.out;simp only[pj]at h1⊢;simp;omega)
   clear hb ha hal hbl
   generalize hX:strOf (pj n 2)=X at a1⊢
   generalize hY:strOf (Lib.decDigits b)=Y at a1
   generalize hZ:strOf (pj n 2++Lib.decDigits b)=Z at a1 a2
   generalize hV:strOf (pj n 3)=V at a2
   have kU:=hid hY
   have HXX:=hid hX
   have HZZ:=hid hZ
   have HVV:=hid hV
   clear hV
   clear hX hY hZ
   go_wp2_with fail
   refine(Tab.I4 b (by omega) _ (HT.out.below HB.out)).mono ?_
   rw[kU.out]
   rintro e w2 ⟨rfl,hb2⟩
   have HB2:Hid (Below w.heap.size w w2):=bel HB.out hb2
   clear hb2
   go_wp2
   go_roundw
   case rel=>exact⟨3,by omega,by rw[HVV.out],rfl,HB2⟩
   case measure=>simp[intOf]
  ·obtain⟨b,hb⟩:∃b,b=n%256:=⟨_,rfl⟩
   have hb256:b<256:=by omega
   obtain⟨a,ha⟩:∃a,a=n:=⟨_,rfl⟩
   have hal:a<4294967296:=by omega
   have hsh:(n:Int) / 1=(a:Int):=by omega
   have hand:bits .and .u32 (a:Int) 255=(b:Int):=by rw[Xe a hal];omega
   have hbl:=I5 b hb256
   have Z4:=hid hbl
   have Bd:=hid hb
   have hai:(a:Int)<4294967296:=by omega
   have hbi:(b:Int)<256:=by omega
   have a1:∀w:World,(Op.stringOp .add (strOf (pj n 3)) (strOf (Lib.decDigits b))).run Tryz.prog w=.ok (.string (strOf (pj n 3++Lib.decDigits b))) w:=fun w=>aci _ _ w (by have h1:=vW.out;have h2:=Z4.out;simp only[pj]at h1⊢;simp;omega)
   have aeX:Hid (pj n 3++Lib.decDigits b=pj n 4):=by show _=_;rw[Bd.out];rfl
   clear hb ha hal hbl
   generalize hX:strOf (pj n 3)=X at a1⊢
   generalize hY:strOf (Lib.decDigits b)=Y at a1
   generalize hZ:strOf (pj n 3++Lib.decDigits b)=Z at a1
   have kU:=hid hY
   have HXX:=hid hX
   have HZZ:=hid hZ
   clear hX hY hZ
   go_wp2_with fail
   refine(Tab.I4 b (by omega) _ (HT.out.below HB.out)).mono ?_
   rw[kU.out]
   rintro e w2 ⟨rfl,hb2⟩
   have HB2:Hid (Below w.heap.size w w2):=bel HB.out hb2
   clear hb2
   go_wp2
   go_roundw
   case rel=>exact⟨4,by omega,by rw[←HZZ.out,aeX.out],rfl,HB2⟩
   case measure=>simp[intOf]
  go_wp2
  go_ret
  exact⟨rfl,HB.out⟩
end Go.Proofs.YtgamccijegollaaGreatDoor.Gl
