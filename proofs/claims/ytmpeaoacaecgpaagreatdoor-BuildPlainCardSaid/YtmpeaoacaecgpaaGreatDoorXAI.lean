/- Texts that belong together: acO, BH, Tab, Gl, HstP, PthP, acL, Kr, PthC, PthD, PthE, WR. -/
import Derived.Test.YtmpeaoacaecgpaaGreatDoorXAH
import Derived.Test.YtmpeaoacaecgpaaGreatDoorXAA
import Derived.Test.YtmpeaoacaecgpaaGreatDoorShelf
import Derived.Lib.LaidU8
import Derived.Lib.LaidTab
import Derived.Lib.SmallJoins
import Derived.Sort.Grow
import Derived.Laws.BitsAllLaws
import Derived.Test.YtmpeaoacaecgpaaGreatDoorXAE
set_option linter.unusedSimpArgs false
set_option linter.unusedVariables false
set_option maxRecDepth 100000
set_option maxHeartbeats 64000000
namespace Go.Proofs.YtmpeaoacaecgpaaGreatDoor.acO
open Go.RowKit Base Base2 dI oO Zx acN
theorem yQ (L:List UInt8) (h:num L=none):CS L=.tuple #[.int .u64 0,.bool false]:=by unfold CS;rw[h]
theorem yR (L:List UInt8) (v:Nat) (h:num L=some v):CS L=.tuple #[.int .u64 (sat v),.bool true]:=by unfold CS;rw[h]
theorem afQ (L:List UInt8):(lst L).length≤L.length:=by
 unfold lst
 cases h:(bZ L).getLast? with
 |none=>simp
 |some x=>exact qK L x (List.mem_of_getLast? h)
theorem aln (s:ByteArray) (w:World) (hs:s.size≤900000):Calls Tryz.prog 325 #[.string s] w fun e w'=>e=.returned (.bool (ends s.data.toList))∧Below w.heap.size w w':=by
 have hsl:s.data.toList.length=s.size:=Array.length_toList
 obtain⟨K,hK⟩:∃K,K=lst (oH s.data.toList):=⟨_,rfl⟩
 obtain⟨o,ho⟩:∃o,o=ends s.data.toList:=⟨_,rfl⟩
 have ho2:o=((num K).isSome||(decide (K≠[])&&eu 10 K)):=by rw[ho,hK];rfl
 obtain⟨U,hU⟩:∃U,U=strOf (oH s.data.toList):=⟨_,rfl⟩
 have hUd:U.data.toList=oH s.data.toList:=by rw[hU];rfl
 have hus:U.size≤900000:=by rw[hU,size_strOf];have:=Fa s.data.toList;omega
 obtain⟨hd1,hd2,hd3⟩:=ahn U
 rw[hUd,←hK]at hd1
 obtain⟨at_,hat⟩:∃a,a=Lib.lastIndexByte U 46:=⟨_,rfl⟩
 rw[←hat]at hd1 hd2 hd3
 obtain⟨n,hn⟩:∃n:Nat,(n:Int)=at_+1:=⟨(at_+1).toNat,by omega⟩
 have hn2:n=(at_+1).toNat:=by omega
 rw[←hn2]at hd1
 obtain⟨Y,hY⟩:∃Y,Y=strOf K:=⟨_,rfl⟩
 have hYe:U.extract n U.size=Y:=by rw[Regs.ext_drop _ _ _ rfl,hUd,hd1,hY]
 have hYd:Y.data.toList=K:=by rw[hY];rfl
 have hys:Y.size≤1073741824:=by
  have h1:=afQ (oH s.data.toList)
  have h2:=Fa s.data.toList
  rw[hY,size_strOf,hK];omega
 have hnu:(n:Int)≤(U.size:Int):=by omega
 have hn0:(0:Int)≤(n:Int):=by omega
 have hem:(Y.toList==[])=decide (K=[]):=by rw[hY];unfold strOf;rw[ByteArray.toList_mk,Bool.eq_iff_iff];simp
 have HO:=hid ho2
 have HU:=hid hU
 have HAT:=hid hat
 have HN:Hid (at_+1=(n:Int)):=hn.symm
 have kU:=hid hYd
 rw[←ho]
 have ha1: -1≤at_:=hd2
 have ha2:at_<900000:=by omega
 clear ho ho2 hK hU hUd hd1 hd2 hd3 hat hn hn2 hY hYd hsl
 go_enter Tryz.func325,Tryz.ntmps325
 go_wp2_with fail
 refine(Nv s _ (by omega)).mono ?_
 rintro e w2 ⟨rfl,hw2⟩
 subst hw2
 rw[←HU.out]
 go_wp2_with fail
 refine(Tryz.strings_LastIndexByte U 46 _ (by omega)).mono ?_
 rintro e w3 ⟨rfl,hw3⟩
 subst hw3
 rw[←HAT.out]
 have hN:=HN.out
 cases hk:num K with
 |some v=>
  have HV:=hid (yR K v hk)
  have HE:Hid (o=true):=by show _=_;rw[HO.out,hk];rfl
  clear hk
  go_wp2_with fail
  refine(bf Y _ hys).mono ?_
  rw[kU.out,HV.out]
  rintro e w4 ⟨rfl,hw4⟩
  subst hw4
  go_wp2
  go_ret
  exact⟨ak HE.out.symm,Below.refl _ _⟩
 |none=>
  have HV:=hid (yQ K hk)
  have HE:Hid (o=(decide (K≠[])&&eu 10 K)):=by show _=_;rw[HO.out,hk];rfl
  clear hk
  by_cases hke:K=[]
  ·have XP:(Y.toList==[])=true:=by rw[hem];exact decide_eq_true hke
   have TR:Y.toList=[]:=by simpa using XP
   have hem3:(Y.toList !=[])=false:=by rw[bne,XP];rfl
   have HE2:Hid (o=false):=by show _=_;rw[HE.out,decide_eq_false (fun h=>h hke)];rfl
   clear hem hke
   go_wp2_with fail
   refine(bf Y _ hys).mono ?_
   rw[kU.out,HV.out]
   rintro e w4 ⟨rfl,hw4⟩
   subst hw4
   go_wp2
   go_ret
   exact⟨ak HE2.out.symm,Below.refl _ _⟩
  have XP:(Y.toList==[])=false:=by rw[hem];exact decide_eq_false hke
  have TR:Y.toList.isEmpty=false:=by
   cases h:Y.toList with
   |nil=>rw[h]at XP;cases XP
   |cons _ _=>rfl
  have hem3:(Y.toList !=[])=true:=by rw[bne,XP];rfl
  have HE2:Hid (o=eu 10 K):=by show _=_;rw[HE.out,decide_eq_true hke];rfl
  clear hem hke
  go_wp2_with fail
  refine(bf Y _ hys).mono ?_
  rw[kU.out,HV.out]
  rintro e w4 ⟨rfl,hw4⟩
  subst hw4
  go_wp2_with fail
  refine(qA Y 10 _ hys).mono ?_
  rw[kU.out]
  rintro e w5 ⟨rfl,hw5⟩
  subst hw5
  go_wp2
  go_ret
  exact⟨ak HE2.out.symm,Below.refl _ _⟩
end Go.Proofs.YtmpeaoacaecgpaaGreatDoor.acO
namespace Go.Proofs.YtmpeaoacaecgpaaGreatDoor.BH
open Go.RowKit Base Base2 dI oO Zx acN acO
def oN (o:Option Nat):Value:=match o with
 |some v=>.tuple #[.int .u32 v,.bool true]
 |none=>.tuple #[.int .u32 0,.bool false]
theorem dh (o:Option Nat) (h:o=none):oN o=.tuple #[.int .u32 0,.bool false]:=by rw[h];rfl
theorem yX (o:Option Nat) (v:Nat) (h:o=some v):oN o=.tuple #[.int .u32 v,.bool true]:=by rw[h];rfl
theorem drop_at {α:Type} (R:List α) (k:Nat) (p:α) (hk:k<R.length) (h:R[k]=p):R.drop k=p::R.drop (k+1):=by rw[←h];exact List.drop_eq_getElem_cons hk
theorem CW (most acc:Nat) (p:List UInt8) (r:List (List UInt8)) (h:num p=none):mZ most acc (p::r)=none:=by
 cases r<;>(unfold mZ;rw[h])
theorem ng (most acc:Nat) (p:List UInt8) (v:Nat) (h:num p=some v) (hv:v<most):mZ most acc [p]=some (acc+v):=by unfold mZ;rw[h];simp only;rw[if_pos hv]
theorem jV (most acc:Nat) (p:List UInt8) (v:Nat) (h:num p=some v) (hv:¬v<most):mZ most acc [p]=none:=by unfold mZ;rw[h];simp only;rw[if_neg hv]
theorem zK (most acc:Nat) (p q:List UInt8) (r:List (List UInt8)) (v:Nat) (h:num p=some v) (hv:v≤255):mZ most acc (p::q::r)=mZ (most / 256) (acc+v*(most / 256)) (q::r):=by
 conv=>lhs;unfold mZ
 rw[h];simp only;rw[if_pos hv]
theorem qj (most acc:Nat) (p q:List UInt8) (r:List (List UInt8)) (v:Nat) (h:num p=some v) (hv:¬v≤255):mZ most acc (p::q::r)=none:=by unfold mZ;rw[h];simp only;rw[if_neg hv]
theorem drop_end {α:Type} (R:List α) (k:Nat) (h:R.length=k):R.drop k=[]:=by subst h;exact List.drop_length
def mk:Nat→Nat
 |0=>4294967296
 |1=>16777216
 |2=>65536
 |3=>256
 |_=>1
theorem D9 (v m:Nat) (hm:m≤4294967296):v<m↔sat v<m:=by unfold sat;omega
theorem G9 (v:Nat) (h:sat v<4294967296):sat v=v:=by unfold sat at h⊢;omega
theorem parse_any (s:ByteArray) (w:World) (hs:s.size≤900000) (hM:Max w):Calls Tryz.prog 326 #[.string s] w fun e w'=>e=.returned (oN (NR s.data.toList))∧Below w.heap.size w w':=by
 have hsl:s.data.toList.length=s.size:=Array.length_toList
 obtain⟨S,hS⟩:∃S,S=NR s.data.toList:=⟨_,rfl⟩
 obtain⟨R,hR⟩:∃R,R=bZ (oH s.data.toList):=⟨_,rfl⟩
 have hS2:S=if R.length≤4 then mZ 4294967296 0 R else none:=by rw[hS,hR];rfl
 obtain⟨U,hU⟩:∃U,U=strOf (oH s.data.toList):=⟨_,rfl⟩
 have hUd:U.data.toList=oH s.data.toList:=by rw[hU];rfl
 have hul:(oH s.data.toList).length≤s.size:=by rw[←hsl];exact Fa _
 have hus:U.size≤900000:=by rw[hU,size_strOf];omega
 have Qi:0<R.length:=by rw[hR];exact List.length_pos_iff.2 (qY _)
 have hrl:R.length≤900001:=by have:=rW (oH s.data.toList);rw[hR];omega
 have Bf:Hid (∀p ∈ R,p.length≤900000):=by
  intro p hp
  rw[hR]at hp
  have:=qK _ p hp
  omega
 have hUR:bZ U.data.toList=R:=by rw[hUd,hR]
 have HUR:=hid hUR
 have HU:=hid hU
 have SB:=hid hM
 have HS2:=hid hS2
 rw[←hS]
 clear hS hS2 hR hU hUd hul hUR hM hsl
 go_enter Tryz.func326,Tryz.ntmps326
 go_wp2_with fail
 refine(Nv s _ (by omega)).mono ?_
 rintro e w2 ⟨rfl,hw2⟩
 subst hw2
 rw[←HU.out]
 go_wp2_with fail
 refine(aiJ U _ (by omega) SB.out).mono ?_
 rw[HUR.out]
 rintro e w3 ⟨A,n,c,rfl,hn,hnc,hcm,hrd,hb⟩
 rw[←hn]at Qi hrl
 obtain⟨g,off,rfl,hg,hcell⟩:=hrd.spot Qi
 have aeW:=hid hcell
 have HB:=hid hb
 have HN:=hid hn
 unfold maxLen at hcm
 clear hn hrd hcell hb
 by_cases h4:n≤4
 ·have h4i:¬(3:Int)<(n:Int) - 1:=by omega
  have HW0:Hid (S=mZ 4294967296 0 (R.drop 0)):=by show _=_;rw[HS2.out,if_pos (by rw[←HN.out];exact h4),List.drop_zero]
  go_wp2
  obtain⟨q,hq⟩:∃q:Int,q=(n:Int) - 1:=⟨_,rfl⟩
  rw[←hq]
  have HQ:=hid hq
  clear hq h4i
  generalize decide ((3:Int)<q)=dd
  go_loopw [6,7,8,9,10,21] (fun va _ _ _ _ vk wr=>∃(k acc:Nat),k≤n∧vk=.int .i64 (k:Int)∧wr=w3∧va=.int .u64 (acc:Int)∧acc<4294967296∧Hid (k<n→acc+mk k≤4294967296)∧Hid (S=mZ (mk k) acc (R.drop k))) (fun _ _ _ _ _ vk _=>n - (intOf vk).toNat)
  case atStart=>exact⟨0,0,Nat.zero_le _,rfl,rfl,rfl,by omega,fun _=>Nat.le_refl _,HW0⟩
  case round=>
   clear HW0
   obtain⟨k,acc,hk,rfl,rfl,rfl,nG,HAC,HW⟩:=hrel
   by_cases hlt:k<n
   ·have hacc := HAC.out hlt
    have hk4:k=0∨k=1∨k=2∨k=3:=by omega
    clear HAC
    rcases hk4 with rfl|rfl|rfl|rfl
    ·simp only[mk]at hacc HW
     obtain⟨p,hp⟩:∃p,p=R[0]'(by rw[←HN.out];exact hlt):=⟨_,rfl⟩
     obtain⟨Y,hY⟩:∃Y,Y=strOf p:=⟨_,rfl⟩
     have hcl:=(aeW.out 0 (by rw[List.length_map,List.length_map,←HN.out];exact hlt))
     rw[List.getElem_map,List.getElem_map,←hp,←hY]at hcl
     try rw[Nat.add_zero]at hcl
     have kU:Hid (Y.data.toList=p):=by show _=_;rw[hY];rfl
     have hys:Y.size≤1073741824:=by
      rw[hY,size_strOf]
      have:=Bf.out p (by rw[hp];exact List.getElem_mem _)
      omega
     have HDR:Hid (R.drop 0=p::R.drop 1):=drop_at R 0 p (by rw[←HN.out];exact hlt) hp.symm
     clear hp hY
     cases hnp:num p with
     |none=>
      have HV:=hid (yQ p hnp)
      have HE:=hid (dh S (by rw[HW.out,HDR.out];exact CW _ _ _ _ hnp))
      clear hnp
      go_wp2_with fail
      refine(bf Y _ hys).mono ?_
      rw[kU.out,HV.out]
      rintro e w4 ⟨rfl,hw4⟩
      subst hw4
      go_wp2
      go_ret2
      exact⟨by rw[HE.out];rfl,HB.out⟩
     | some v=>
      have HV:=hid (yR p v hnp)
      obtain⟨x,hx⟩:∃x,x=sat v:=⟨_,rfl⟩
      have hx2:x≤4294967296:=by rw[hx];unfold sat;omega
      rw[←hx]at HV
      by_cases hq:n=1
      ·have vC:R.drop 1=[]:=drop_end R _ (by rw[←HN.out];exact hq)
       have hA:((0:Int)==q)=true:=by have:=HQ.out;simp;omega
       have hB:¬(0:Int)<q:=by have:=HQ.out;omega
       have hC:4 - q=4:=by have:=HQ.out;omega
       have Cm:=hid hq
       clear hq
       by_cases hxm:x<4294967296
       ·have hxv:x=v:=by rw[hx];exact G9 v (by rw[←hx];omega)
        have HE:=hid ((show S=mZ 4294967296 acc [p]by rw[HW.out,HDR.out,vC]).trans (ng 4294967296 acc p v hnp ((D9 v 4294967296 (by omega)).2 (by rw[←hx];exact hxm))))
        have UE:=hid hxv
        have YM:=hid vC
        clear hnp hx hxv vC
        have eG:Hid ((acc:Int)+(x:Int)=((acc+v:Nat):Int)):=by show _=_;rw[UE.out];omega
        have hxi:(x:Int)<4294967296:=by omega
        have hx0:(0:Int)≤(x:Int):=by omega
        have hai:(acc:Int)+4294967296≤4294967296:=by omega
        have ha0:(0:Int)≤(acc:Int):=by omega
        have hvb:acc+v<4294967296:=by have:=UE.out;omega
        have Fh:=hid hvb
        clear hxm hx2 hacc hvb
        have Gf:Hid (S=mZ (mk 1) (acc+v) (R.drop 1)):=by show _=_;rw[YM.out];exact HE.out
        generalize (x:Int)=X at hxi hx0 eG HV
        generalize (acc:Int)=AC at hai ha0 eG⊢
        go_wp2_with fail
        refine(bf Y _ hys).mono ?_
        rw[kU.out,HV.out]
        rintro e w4 ⟨rfl,hw4⟩
        subst hw4
        go_wp2
        go_roundw
        case rel=>exact⟨1,acc+v,by have:=Cm.out;omega,by go_num,by first|rfl|trivial,by first|exact int_eq eG.out|(rw[←eG.out]),Fh.out,fun h=>absurd h (by have:=Cm.out;omega),Gf⟩
        case measure=>(have:=Cm.out;simp[intOf];omega)
       have HE:=hid (dh S ((show S=mZ 4294967296 acc [p]by rw[HW.out,HDR.out,vC]).trans (jV 4294967296 acc p v hnp (fun h=>hxm (by rw[hx];exact(D9 v 4294967296 (by omega)).1 h)))))
       have hxi:¬(x:Int)<4294967296:=by omega
       have hx0:(0:Int)≤(x:Int):=by omega
       have KN:(x:Int)≤4294967296:=by omega
       clear hnp hx vC hxm hx2
       generalize (x:Int)=X at hxi hx0 KN HV
       generalize (acc:Int)=AC
       go_wp2_with fail
       refine(bf Y _ hys).mono ?_
       rw[kU.out,HV.out]
       rintro e w4 ⟨rfl,hw4⟩
       subst hw4
       go_wp2
       go_ret2
       exact⟨by rw[HE.out];rfl,HB.out⟩
      have hA:((0:Int)==q)=false:=by have:=HQ.out;simp;omega
      have hB:(0:Int)<q:=by have:=HQ.out;omega
      have hlt2:1<n:=by omega
      obtain⟨p2,hp2⟩:∃p2,p2=R[1]'(by rw[←HN.out];exact hlt2):=⟨_,rfl⟩
      have lF:R.drop 1=p2::R.drop 2:=drop_at R 1 p2 (by rw[←HN.out];exact hlt2) hp2.symm
      have Cj:=hid hlt2
      clear hp2 hq hlt2
      by_cases hxm:x≤255
      ·have hxv:x=v:=by rw[hx];exact G9 v (by rw[←hx];omega)
       have HE:=hid ((show S=mZ 4294967296 acc (p::p2::R.drop 2)by rw[HW.out,HDR.out,lF]).trans (zK 4294967296 acc p p2 (R.drop 2) v hnp (by omega)))
       have OJ:=hid lF
       have UE:=hid hxv
       clear hnp hx hxv lF
       have eG:Hid ((acc:Int)+(x:Int)*16777216=((acc+v*16777216:Nat):Int)):=by show _=_;rw[UE.out];omega
       have hxi:(x:Int)≤255:=by omega
       have hx0:(0:Int)≤(x:Int):=by omega
       have hai:(acc:Int)+4294967296≤4294967296:=by omega
       have ha0:(0:Int)≤(acc:Int):=by omega
       have Fh:Hid (acc+v*16777216+16777216≤4294967296):=by have:=UE.out;show _≤_;omega
       have Gf:Hid (S=mZ (mk 1) (acc+v*16777216) (R.drop 1)):=by show _=_;rw[OJ.out];exact HE.out
       clear hxm hx2 hacc
       generalize (x:Int)=X at hxi hx0 eG HV
       generalize (acc:Int)=AC at hai ha0 eG⊢
       go_wp2_with fail
       refine(bf Y _ hys).mono ?_
       rw[kU.out,HV.out]
       rintro e w4 ⟨rfl,hw4⟩
       subst hw4
       go_wp2
       go_roundw
       case rel=>exact⟨1,acc+v*16777216,by have:=Cj.out;omega,by go_num,by first|rfl|trivial,by first|exact int_eq eG.out|(rw[←eG.out]),by have:=Fh.out;omega,fun _=>Fh.out,Gf⟩
       case measure=>(have:=Cj.out;simp[intOf];omega)
      have HE:=hid (dh S ((show S=mZ 4294967296 acc (p::p2::R.drop 2)by rw[HW.out,HDR.out,lF]).trans (qj 4294967296 acc p p2 (R.drop 2) v hnp (fun h=>hxm (by rw[hx];unfold sat;omega)))))
      have hxi:¬(x:Int)≤255:=by omega
      have Qy:(255:Int)<(x:Int):=by omega
      have KN:(x:Int)≤4294967296:=by omega
      clear hnp hx lF hxm hx2
      generalize (x:Int)=X at hxi Qy KN HV
      generalize (acc:Int)=AC
      go_wp2_with fail
      refine(bf Y _ hys).mono ?_
      rw[kU.out,HV.out]
      rintro e w4 ⟨rfl,hw4⟩
      subst hw4
      go_wp2
      go_ret2
      exact⟨by rw[HE.out];rfl,HB.out⟩
    ·simp only[mk]at hacc HW
     obtain⟨p,hp⟩:∃p,p=R[1]'(by rw[←HN.out];exact hlt):=⟨_,rfl⟩
     obtain⟨Y,hY⟩:∃Y,Y=strOf p:=⟨_,rfl⟩
     have hcl:=(aeW.out 1 (by rw[List.length_map,List.length_map,←HN.out];exact hlt))
     rw[List.getElem_map,List.getElem_map,←hp,←hY]at hcl
     try rw[Nat.add_zero]at hcl
     have kU:Hid (Y.data.toList=p):=by show _=_;rw[hY];rfl
     have hys:Y.size≤1073741824:=by
      rw[hY,size_strOf]
      have:=Bf.out p (by rw[hp];exact List.getElem_mem _)
      omega
     have HDR:Hid (R.drop 1=p::R.drop 2):=drop_at R 1 p (by rw[←HN.out];exact hlt) hp.symm
     clear hp hY
     cases hnp:num p with
     |none=>
      have HV:=hid (yQ p hnp)
      have HE:=hid (dh S (by rw[HW.out,HDR.out];exact CW _ _ _ _ hnp))
      clear hnp
      go_wp2_with fail
      refine(bf Y _ hys).mono ?_
      rw[kU.out,HV.out]
      rintro e w4 ⟨rfl,hw4⟩
      subst hw4
      go_wp2
      go_ret2
      exact⟨by rw[HE.out];rfl,HB.out⟩
     | some v=>
      have HV:=hid (yR p v hnp)
      obtain⟨x,hx⟩:∃x,x=sat v:=⟨_,rfl⟩
      have hx2:x≤4294967296:=by rw[hx];unfold sat;omega
      rw[←hx]at HV
      by_cases hq:n=2
      ·have vC:R.drop 2=[]:=drop_end R _ (by rw[←HN.out];exact hq)
       have hA:((1:Int)==q)=true:=by have:=HQ.out;simp;omega
       have hB:¬(1:Int)<q:=by have:=HQ.out;omega
       have hC:4 - q=3:=by have:=HQ.out;omega
       have Cm:=hid hq
       clear hq
       by_cases hxm:x<16777216
       ·have hxv:x=v:=by rw[hx];exact G9 v (by rw[←hx];omega)
        have HE:=hid ((show S=mZ 16777216 acc [p]by rw[HW.out,HDR.out,vC]).trans (ng 16777216 acc p v hnp ((D9 v 16777216 (by omega)).2 (by rw[←hx];exact hxm))))
        have UE:=hid hxv
        have YM:=hid vC
        clear hnp hx hxv vC
        have eG:Hid ((acc:Int)+(x:Int)=((acc+v:Nat):Int)):=by show _=_;rw[UE.out];omega
        have hxi:(x:Int)<16777216:=by omega
        have hx0:(0:Int)≤(x:Int):=by omega
        have hai:(acc:Int)+16777216≤4294967296:=by omega
        have ha0:(0:Int)≤(acc:Int):=by omega
        have hvb:acc+v<4294967296:=by have:=UE.out;omega
        have Fh:=hid hvb
        clear hxm hx2 hacc hvb
        have Gf:Hid (S=mZ (mk 2) (acc+v) (R.drop 2)):=by show _=_;rw[YM.out];exact HE.out
        generalize (x:Int)=X at hxi hx0 eG HV
        generalize (acc:Int)=AC at hai ha0 eG⊢
        go_wp2_with fail
        refine(bf Y _ hys).mono ?_
        rw[kU.out,HV.out]
        rintro e w4 ⟨rfl,hw4⟩
        subst hw4
        go_wp2
        go_roundw
        case rel=>exact⟨2,acc+v,by have:=Cm.out;omega,by go_num,by first|rfl|trivial,by first|exact int_eq eG.out|(rw[←eG.out]),Fh.out,fun h=>absurd h (by have:=Cm.out;omega),Gf⟩
        case measure=>(have:=Cm.out;simp[intOf];omega)
       have HE:=hid (dh S ((show S=mZ 16777216 acc [p]by rw[HW.out,HDR.out,vC]).trans (jV 16777216 acc p v hnp (fun h=>hxm (by rw[hx];exact(D9 v 16777216 (by omega)).1 h)))))
       have hxi:¬(x:Int)<16777216:=by omega
       have hx0:(0:Int)≤(x:Int):=by omega
       have KN:(x:Int)≤4294967296:=by omega
       clear hnp hx vC hxm hx2
       generalize (x:Int)=X at hxi hx0 KN HV
       generalize (acc:Int)=AC
       go_wp2_with fail
       refine(bf Y _ hys).mono ?_
       rw[kU.out,HV.out]
       rintro e w4 ⟨rfl,hw4⟩
       subst hw4
       go_wp2
       go_ret2
       exact⟨by rw[HE.out];rfl,HB.out⟩
      have hA:((1:Int)==q)=false:=by have:=HQ.out;simp;omega
      have hB:(1:Int)<q:=by have:=HQ.out;omega
      have hlt2:2<n:=by omega
      obtain⟨p2,hp2⟩:∃p2,p2=R[2]'(by rw[←HN.out];exact hlt2):=⟨_,rfl⟩
      have lF:R.drop 2=p2::R.drop 3:=drop_at R 2 p2 (by rw[←HN.out];exact hlt2) hp2.symm
      have Cj:=hid hlt2
      clear hp2 hq hlt2
      by_cases hxm:x≤255
      ·have hxv:x=v:=by rw[hx];exact G9 v (by rw[←hx];omega)
       have HE:=hid ((show S=mZ 16777216 acc (p::p2::R.drop 3)by rw[HW.out,HDR.out,lF]).trans (zK 16777216 acc p p2 (R.drop 3) v hnp (by omega)))
       have OJ:=hid lF
       have UE:=hid hxv
       clear hnp hx hxv lF
       have eG:Hid ((acc:Int)+(x:Int)*65536=((acc+v*65536:Nat):Int)):=by show _=_;rw[UE.out];omega
       have hxi:(x:Int)≤255:=by omega
       have hx0:(0:Int)≤(x:Int):=by omega
       have hai:(acc:Int)+16777216≤4294967296:=by omega
       have ha0:(0:Int)≤(acc:Int):=by omega
       have Fh:Hid (acc+v*65536+65536≤4294967296):=by have:=UE.out;show _≤_;omega
       have Gf:Hid (S=mZ (mk 2) (acc+v*65536) (R.drop 2)):=by show _=_;rw[OJ.out];exact HE.out
       clear hxm hx2 hacc
       generalize (x:Int)=X at hxi hx0 eG HV
       generalize (acc:Int)=AC at hai ha0 eG⊢
       go_wp2_with fail
       refine(bf Y _ hys).mono ?_
       rw[kU.out,HV.out]
       rintro e w4 ⟨rfl,hw4⟩
       subst hw4
       go_wp2
       go_roundw
       case rel=>exact⟨2,acc+v*65536,by have:=Cj.out;omega,by go_num,by first|rfl|trivial,by first|exact int_eq eG.out|(rw[←eG.out]),by have:=Fh.out;omega,fun _=>Fh.out,Gf⟩
       case measure=>(have:=Cj.out;simp[intOf];omega)
      have HE:=hid (dh S ((show S=mZ 16777216 acc (p::p2::R.drop 3)by rw[HW.out,HDR.out,lF]).trans (qj 16777216 acc p p2 (R.drop 3) v hnp (fun h=>hxm (by rw[hx];unfold sat;omega)))))
      have hxi:¬(x:Int)≤255:=by omega
      have Qy:(255:Int)<(x:Int):=by omega
      have KN:(x:Int)≤4294967296:=by omega
      clear hnp hx lF hxm hx2
      generalize (x:Int)=X at hxi Qy KN HV
      generalize (acc:Int)=AC
      go_wp2_with fail
      refine(bf Y _ hys).mono ?_
      rw[kU.out,HV.out]
      rintro e w4 ⟨rfl,hw4⟩
      subst hw4
      go_wp2
      go_ret2
      exact⟨by rw[HE.out];rfl,HB.out⟩
    ·simp only[mk]at hacc HW
     obtain⟨p,hp⟩:∃p,p=R[2]'(by rw[←HN.out];exact hlt):=⟨_,rfl⟩
     obtain⟨Y,hY⟩:∃Y,Y=strOf p:=⟨_,rfl⟩
     have hcl:=(aeW.out 2 (by rw[List.length_map,List.length_map,←HN.out];exact hlt))
     rw[List.getElem_map,List.getElem_map,←hp,←hY]at hcl
     try rw[Nat.add_zero]at hcl
     have kU:Hid (Y.data.toList=p):=by show _=_;rw[hY];rfl
     have hys:Y.size≤1073741824:=by
      rw[hY,size_strOf]
      have:=Bf.out p (by rw[hp];exact List.getElem_mem _)
      omega
     have HDR:Hid (R.drop 2=p::R.drop 3):=drop_at R 2 p (by rw[←HN.out];exact hlt) hp.symm
     clear hp hY
     cases hnp:num p with
     |none=>
      have HV:=hid (yQ p hnp)
      have HE:=hid (dh S (by rw[HW.out,HDR.out];exact CW _ _ _ _ hnp))
      clear hnp
      go_wp2_with fail
      refine(bf Y _ hys).mono ?_
      rw[kU.out,HV.out]
      rintro e w4 ⟨rfl,hw4⟩
      subst hw4
      go_wp2
      go_ret2
      exact⟨by rw[HE.out];rfl,HB.out⟩
     | some v=>
      have HV:=hid (yR p v hnp)
      obtain⟨x,hx⟩:∃x,x=sat v:=⟨_,rfl⟩
      have hx2:x≤4294967296:=by rw[hx];unfold sat;omega
      rw[←hx]at HV
      by_cases hq:n=3
      ·have vC:R.drop 3=[]:=drop_end R _ (by rw[←HN.out];exact hq)
       have hA:((2:Int)==q)=true:=by have:=HQ.out;simp;omega
       have hB:¬(2:Int)<q:=by have:=HQ.out;omega
       have hC:4 - q=2:=by have:=HQ.out;omega
       have Cm:=hid hq
       clear hq
       by_cases hxm:x<65536
       ·have hxv:x=v:=by rw[hx];exact G9 v (by rw[←hx];omega)
        have HE:=hid ((show S=mZ 65536 acc [p]by rw[HW.out,HDR.out,vC]).trans (ng 65536 acc p v hnp ((D9 v 65536 (by omega)).2 (by rw[←hx];exact hxm))))
        have UE:=hid hxv
        have YM:=hid vC
        clear hnp hx hxv vC
        have eG:Hid ((acc:Int)+(x:Int)=((acc+v:Nat):Int)):=by show _=_;rw[UE.out];omega
        have hxi:(x:Int)<65536:=by omega
        have hx0:(0:Int)≤(x:Int):=by omega
        have hai:(acc:Int)+65536≤4294967296:=by omega
        have ha0:(0:Int)≤(acc:Int):=by omega
        have hvb:acc+v<4294967296:=by have:=UE.out;omega
        have Fh:=hid hvb
        clear hxm hx2 hacc hvb
        have Gf:Hid (S=mZ (mk 3) (acc+v) (R.drop 3)):=by show _=_;rw[YM.out];exact HE.out
        generalize (x:Int)=X at hxi hx0 eG HV
        generalize (acc:Int)=AC at hai ha0 eG⊢
        go_wp2_with fail
        refine(bf Y _ hys).mono ?_
        rw[kU.out,HV.out]
        rintro e w4 ⟨rfl,hw4⟩
        subst hw4
        go_wp2
        go_roundw
        case rel=>exact⟨3,acc+v,by have:=Cm.out;omega,by go_num,by first|rfl|trivial,by first|exact int_eq eG.out|(rw[←eG.out]),Fh.out,fun h=>absurd h (by have:=Cm.out;omega),Gf⟩
        case measure=>(have:=Cm.out;simp[intOf];omega)
       have HE:=hid (dh S ((show S=mZ 65536 acc [p]by rw[HW.out,HDR.out,vC]).trans (jV 65536 acc p v hnp (fun h=>hxm (by rw[hx];exact(D9 v 65536 (by omega)).1 h)))))
       have hxi:¬(x:Int)<65536:=by omega
       have hx0:(0:Int)≤(x:Int):=by omega
       have KN:(x:Int)≤4294967296:=by omega
       clear hnp hx vC hxm hx2
       generalize (x:Int)=X at hxi hx0 KN HV
       generalize (acc:Int)=AC
       go_wp2_with fail
       refine(bf Y _ hys).mono ?_
       rw[kU.out,HV.out]
       rintro e w4 ⟨rfl,hw4⟩
       subst hw4
       go_wp2
       go_ret2
       exact⟨by rw[HE.out];rfl,HB.out⟩
      have hA:((2:Int)==q)=false:=by have:=HQ.out;simp;omega
      have hB:(2:Int)<q:=by have:=HQ.out;omega
      have hlt2:3<n:=by omega
      obtain⟨p2,hp2⟩:∃p2,p2=R[3]'(by rw[←HN.out];exact hlt2):=⟨_,rfl⟩
      have lF:R.drop 3=p2::R.drop 4:=drop_at R 3 p2 (by rw[←HN.out];exact hlt2) hp2.symm
      have Cj:=hid hlt2
      clear hp2 hq hlt2
      by_cases hxm:x≤255
      ·have hxv:x=v:=by rw[hx];exact G9 v (by rw[←hx];omega)
       have HE:=hid ((show S=mZ 65536 acc (p::p2::R.drop 4)by rw[HW.out,HDR.out,lF]).trans (zK 65536 acc p p2 (R.drop 4) v hnp (by omega)))
       have OJ:=hid lF
       have UE:=hid hxv
       clear hnp hx hxv lF
       have eG:Hid ((acc:Int)+(x:Int)*256=((acc+v*256:Nat):Int)):=by show _=_;rw[UE.out];omega
       have hxi:(x:Int)≤255:=by omega
       have hx0:(0:Int)≤(x:Int):=by omega
       have hai:(acc:Int)+65536≤4294967296:=by omega
       have ha0:(0:Int)≤(acc:Int):=by omega
       have Fh:Hid (acc+v*256+256≤4294967296):=by have:=UE.out;show _≤_;omega
       have Gf:Hid (S=mZ (mk 3) (acc+v*256) (R.drop 3)):=by show _=_;rw[OJ.out];exact HE.out
       clear hxm hx2 hacc
       generalize (x:Int)=X at hxi hx0 eG HV
       generalize (acc:Int)=AC at hai ha0 eG⊢
       go_wp2_with fail
       refine(bf Y _ hys).mono ?_
       rw[kU.out,HV.out]
       rintro e w4 ⟨rfl,hw4⟩
       subst hw4
       go_wp2
       go_roundw
       case rel=>exact⟨3,acc+v*256,by have:=Cj.out;omega,by go_num,by first|rfl|trivial,by first|exact int_eq eG.out|(rw[←eG.out]),by have:=Fh.out;omega,fun _=>Fh.out,Gf⟩
       case measure=>(have:=Cj.out;simp[intOf];omega)
      have HE:=hid (dh S ((show S=mZ 65536 acc (p::p2::R.drop 4)by rw[HW.out,HDR.out,lF]).trans (qj 65536 acc p p2 (R.drop 4) v hnp (fun h=>hxm (by rw[hx];unfold sat;omega)))))
      have hxi:¬(x:Int)≤255:=by omega
      have Qy:(255:Int)<(x:Int):=by omega
      have KN:(x:Int)≤4294967296:=by omega
      clear hnp hx lF hxm hx2
      generalize (x:Int)=X at hxi Qy KN HV
      generalize (acc:Int)=AC
      go_wp2_with fail
      refine(bf Y _ hys).mono ?_
      rw[kU.out,HV.out]
      rintro e w4 ⟨rfl,hw4⟩
      subst hw4
      go_wp2
      go_ret2
      exact⟨by rw[HE.out];rfl,HB.out⟩
    simp only[mk]at hacc HW
    obtain⟨p,hp⟩:∃p,p=R[3]'(by rw[←HN.out];exact hlt):=⟨_,rfl⟩
    obtain⟨Y,hY⟩:∃Y,Y=strOf p:=⟨_,rfl⟩
    have hcl:=(aeW.out 3 (by rw[List.length_map,List.length_map,←HN.out];exact hlt))
    rw[List.getElem_map,List.getElem_map,←hp,←hY]at hcl
    try rw[Nat.add_zero]at hcl
    have kU:Hid (Y.data.toList=p):=by show _=_;rw[hY];rfl
    have hys:Y.size≤1073741824:=by
     rw[hY,size_strOf]
     have:=Bf.out p (by rw[hp];exact List.getElem_mem _)
     omega
    have HDR:Hid (R.drop 3=p::R.drop 4):=drop_at R 3 p (by rw[←HN.out];exact hlt) hp.symm
    clear hp hY
    cases hnp:num p with
    |none=>
     have HV:=hid (yQ p hnp)
     have HE:=hid (dh S (by rw[HW.out,HDR.out];exact CW _ _ _ _ hnp))
     clear hnp
     go_wp2_with fail
     refine(bf Y _ hys).mono ?_
     rw[kU.out,HV.out]
     rintro e w4 ⟨rfl,hw4⟩
     subst hw4
     go_wp2
     go_ret2
     exact⟨by rw[HE.out];rfl,HB.out⟩
    | some v=>
     have HV:=hid (yR p v hnp)
     obtain⟨x,hx⟩:∃x,x=sat v:=⟨_,rfl⟩
     have hx2:x≤4294967296:=by rw[hx];unfold sat;omega
     rw[←hx]at HV
     by_cases hq:n=4
     ·have vC:R.drop 4=[]:=drop_end R _ (by rw[←HN.out];exact hq)
      have hA:((3:Int)==q)=true:=by have:=HQ.out;simp;omega
      have hB:¬(3:Int)<q:=by have:=HQ.out;omega
      have hC:4 - q=1:=by have:=HQ.out;omega
      have Cm:=hid hq
      clear hq
      by_cases hxm:x<256
      ·have hxv:x=v:=by rw[hx];exact G9 v (by rw[←hx];omega)
       have HE:=hid ((show S=mZ 256 acc [p]by rw[HW.out,HDR.out,vC]).trans (ng 256 acc p v hnp ((D9 v 256 (by omega)).2 (by rw[←hx];exact hxm))))
       have UE:=hid hxv
       have YM:=hid vC
       clear hnp hx hxv vC
       have eG:Hid ((acc:Int)+(x:Int)=((acc+v:Nat):Int)):=by show _=_;rw[UE.out];omega
       have hxi:(x:Int)<256:=by omega
       have hx0:(0:Int)≤(x:Int):=by omega
       have hai:(acc:Int)+256≤4294967296:=by omega
       have ha0:(0:Int)≤(acc:Int):=by omega
       have hvb:acc+v<4294967296:=by have:=UE.out;omega
       have Fh:=hid hvb
       clear hxm hx2 hacc hvb
       have Gf:Hid (S=mZ (mk 4) (acc+v) (R.drop 4)):=by show _=_;rw[YM.out];exact HE.out
       generalize (x:Int)=X at hxi hx0 eG HV
       generalize (acc:Int)=AC at hai ha0 eG⊢
       go_wp2_with fail
       refine(bf Y _ hys).mono ?_
       rw[kU.out,HV.out]
       rintro e w4 ⟨rfl,hw4⟩
       subst hw4
       go_wp2
       go_roundw
       case rel=>exact⟨4,acc+v,by have:=Cm.out;omega,by go_num,by first|rfl|trivial,by first|exact int_eq eG.out|(rw[←eG.out]),Fh.out,fun h=>absurd h (by have:=Cm.out;omega),Gf⟩
       case measure=>(have:=Cm.out;simp[intOf];omega)
      have HE:=hid (dh S ((show S=mZ 256 acc [p]by rw[HW.out,HDR.out,vC]).trans (jV 256 acc p v hnp (fun h=>hxm (by rw[hx];exact(D9 v 256 (by omega)).1 h)))))
      have hxi:¬(x:Int)<256:=by omega
      have hx0:(0:Int)≤(x:Int):=by omega
      have KN:(x:Int)≤4294967296:=by omega
      clear hnp hx vC hxm hx2
      generalize (x:Int)=X at hxi hx0 KN HV
      generalize (acc:Int)=AC
      go_wp2_with fail
      refine(bf Y _ hys).mono ?_
      rw[kU.out,HV.out]
      rintro e w4 ⟨rfl,hw4⟩
      subst hw4
      go_wp2
      go_ret2
      exact⟨by rw[HE.out];rfl,HB.out⟩
     exact absurd hlt (by omega)
   obtain rfl:k=n:=by omega
   have HE:=hid (yX S acc (by rw[HW.out,drop_end R k HN.out.symm];rfl))
   have ha0:(0:Int)≤(acc:Int):=by omega
   have hai:(acc:Int)<4294967296:=by omega
   clear nG
   generalize (acc:Int)=AC at ha0 hai HE⊢
   go_wp2
   go_ret2
   exact⟨by rw[HE.out];rfl,HB.out⟩
 have h4i:(3:Int)<(n:Int) - 1:=by omega
 have HE:=hid (dh S (by rw[HS2.out,if_neg (by rw[←HN.out];exact h4)]))
 go_wp2
 go_ret2
 exact⟨by rw[HE.out];rfl,HB.out⟩
end Go.Proofs.YtmpeaoacaecgpaaGreatDoor.BH
namespace Go.Proofs.YtmpeaoacaecgpaaGreatDoor.Tab
open Go.RowKit Base
def Pow (w:World):Prop:=Lib.TabIs Tryz.prog w "internal/strconv.uint64pow10" .u64 Lib.pow10Tab
theorem G6:Tryz.prog.globalNamed "internal/strconv.uint64pow10" =some 3:=by kernel_rfl
theorem pow_of {W:World} {l:List (String×DataW Unit)} (h:laidMet Tryz.prog l W) (hm:("internal/strconv.uint64pow10",Lib.tabData .u64 Lib.pow10Tab) ∈ l):Pow W:=by
 obtain⟨g',t',cs,fuel,p,hg',ht',hvar,hd⟩:=Lib.laidMet.reads h hm
 obtain rfl:=Option.some.inj (G6.symm.trans hg')
 obtain rfl:=Option.some.inj ((show(Tryz.prog.globals[3]?).map (·.type)=some 327 by kernel_rfl).symm.trans ht')
 show World.var? _ _ _=_
 rw[hvar,←Lib.cells_of_tab (k:=.u64) (zs:=Lib.pow10Tab) Tryz.underlying327 Tryz.underlying212 (by kernel_rfl) (by kernel_rfl) hd]
theorem Pow.below {w w':World} (h:Pow w) (hb:Below w.heap.size w w'):Pow w':=Joins.tab_stays G6 h hb (Nat.le_refl _)
theorem below_grow (w:World) (k:Nat) (os:Array Obj):Below w.heap.size w (Sort.grow (w.drewN k) os):=
 ⟨rfl,rfl,rfl,by rw[Sort.size_grow];exact Nat.le_add_right _ _,fun g hg=>by
  show(w.heap++os)[g]?=w.heap[g]?
  rw[Array.getElem?_append_left hg]⟩
theorem ami (n:Nat):Lib.itoa (n:Int)=Lib.decDigits n:=by unfold Lib.itoa;rw[if_neg (by omega)];simp
theorem I4 (n:Nat) (hn:n≤9223372036854775807) (w:World) (hT:Pow w):
  Calls Tryz.prog 159 #[.int .i64 (n:Int)] w fun e w'=>e=.returned (.string (strOf (Lib.decDigits n)))∧Below w.heap.size w w':=
 (Tryz.strconv_Itoa (n:Int) (by omega) (by omega) w hT).mono fun e w' ⟨he,k,os,hw⟩=>⟨by rw[he,ami];rfl,by rw[hw];exact below_grow w k os⟩
end Go.Proofs.YtmpeaoacaecgpaaGreatDoor.Tab
namespace Go.Proofs.YtmpeaoacaecgpaaGreatDoor.Gl
open Go.RowKit Base Base2 dI oO Zx acN BH
theorem uX (k:Nat):∀n,n<10^(k+1)→(Lib.decDigits n).length≤k+1:=by
 induction k with
 |zero=>intro n h;rw[Lib.decDigits,dif_pos (by omega)];simp
 |succ k ih=>
  intro n h
  rw[Lib.decDigits]
  split
  ·simp
  have:=ih (n / 10) (by rw[Nat.pow_succ]at h;omega)
  rw[List.length_append]
  simp
  omega
def p1 (n:Nat):List UInt8:=Lib.decDigits (n / 16777216)++[46]
def p2 (n:Nat):List UInt8:=p1 n++Lib.decDigits (n / 65536%256)++[46]
def p3 (n:Nat):List UInt8:=p2 n++Lib.decDigits (n / 256%256)++[46]
def pr (n:Nat):List UInt8:=p3 n++Lib.decDigits (n%256)
theorem I5 (n:Nat) (h:n<256):(Lib.decDigits n).length≤3:=uX 2 n (by omega)
theorem ad5 (n:Nat) (h:n<4294967296):(p1 n).length≤4:=by have:=I5 (n / 16777216) (by omega);simp[p1];omega
theorem ad6 (n:Nat) (h:n<4294967296):(p2 n).length≤8:=by have:=I5 (n / 65536%256) (by omega);have:=ad5 n h;simp[p2];omega
theorem ad7 (n:Nat) (h:n<4294967296):(p3 n).length≤12:=by have:=I5 (n / 256%256) (by omega);have:=ad6 n h;simp[p3];omega
theorem pr_len (n:Nat) (h:n<4294967296):(pr n).length≤15:=by have:=I5 (n%256) (by omega);have:=ad7 n h;simp[pr];omega
theorem Xe (a:Nat) (h:a<4294967296):bits .and .u32 (a:Int) 255=((a%256:Nat):Int):=by
 have:=u32_and_nat a 255 h (by omega)
 rw[show((255:Nat):Int)=255 from rfl]at this
 rw[this]
 congr 1
 exact Nat.and_two_pow_sub_one_eq_mod a 8
def pj (n:Nat):Nat→List UInt8
 |0=>[]
 |1=>p1 n
 |2=>p2 n
 |3=>p3 n
 |_=>pr n
theorem print_any (n:Nat) (hn:n<4294967296) (w:World) (hT:Tab.Pow w):Calls Tryz.prog 327 #[.int .u32 (n:Int)] w fun e w'=>e=.returned (.string (strOf (pr n)))∧Below w.heap.size w w':=by
 have HT:=hid hT
 have hni:(n:Int)<4294967296:=by omega
 have hn0:0≤(n:Int):=by omega
 have vW:Hid ((p1 n).length≤4∧(p2 n).length≤8∧(p3 n).length≤12):=⟨ad5 n hn,ad6 n hn,ad7 n hn⟩
 clear hT
 go_enter Tryz.func327,Tryz.ntmps327
 go_wp2
 go_loopw [3,4] (fun vo vs wr=>∃j:Nat,j≤4∧vo=.string (strOf (pj n j))∧vs=.int .i64 (24 - 8*(j:Int))∧Hid (Below w.heap.size w wr)) (fun _ vs _=>(intOf vs+8).toNat)
 case atStart=>exact⟨0,by omega,rfl,rfl,Below.refl _ _⟩
 case round=>
  obtain⟨j,hj,rfl,rfl,HB⟩:=hrel
  have hj5:j=0∨j=1∨j=2∨j=3∨j=4:=by omega
  rcases hj5 with rfl|rfl|rfl|rfl|rfl
  ·obtain⟨b,hb⟩:∃b,b=n / 16777216:=⟨_,rfl⟩
   have hb256:b<256:=by omega
   obtain⟨a,ha⟩:∃a,a=n / 16777216:=⟨_,rfl⟩
   have hal:a<4294967296:=by omega
   have hsh:(n:Int) / 16777216=(a:Int):=by omega
   have hand:bits .and .u32 (a:Int) 255=(b:Int):=by rw[Xe a hal];omega
   have hbl:=I5 b hb256
   have HBL:=hid hbl
   have Bd:=hid hb
   have hai:(a:Int)<4294967296:=by omega
   have hbi:(b:Int)<256:=by omega
   have a1:∀w:World,(Op.stringOp .add (strOf (pj n 0)) (strOf (Lib.decDigits b))).run Tryz.prog w=.ok (.string (strOf (pj n 0++Lib.decDigits b))) w:=fun w=>str_add _ _ w (by have h1:=vW.out;have h2:=HBL.out;simp only[pj]at h1⊢;simp;omega)
   have a2:∀w:World,(Op.stringOp .add (strOf (pj n 0++Lib.decDigits b)) ⟨#[46]⟩).run Tryz.prog w=.ok (.string (strOf (pj n 1))) w:=fun w=>by
    have e:pj n 1=pj n 0++Lib.decDigits b++[46]:=by rw[Bd.out];rfl
    rw[e]
    exact str_add _ [46] w (by have h1:=vW.out;have h2:=HBL.out;simp only[pj]at h1⊢;simp;omega)
   clear hb ha hal hbl
   generalize hX:strOf (pj n 0)=X at a1⊢
   generalize hY:strOf (Lib.decDigits b)=Y at a1
   generalize hZ:strOf (pj n 0++Lib.decDigits b)=Z at a1 a2
   generalize hV:strOf (pj n 1)=V at a2
   have kU:=hid hY
   have HXX:=hid hX
   have HZZ:=hid hZ
   have HVV:=hid hV
   clear hV
   clear hX hY hZ
   go_wp2_with fail
   refine(Tab.I4 b (by omega) _ (HT.out.below HB.out)).mono ?_
   rw[kU.out]
   rintro e w2 ⟨rfl,hb2⟩
   have HB2:Hid (Below w.heap.size w w2):=bel HB.out hb2
   clear hb2
   go_wp2
   go_roundw
   case rel=>exact⟨1,by omega,by rw[HVV.out],rfl,HB2⟩
   case measure=>simp[intOf]
  ·obtain⟨b,hb⟩:∃b,b=n / 65536%256:=⟨_,rfl⟩
   have hb256:b<256:=by omega
   obtain⟨a,ha⟩:∃a,a=n / 65536:=⟨_,rfl⟩
   have hal:a<4294967296:=by omega
   have hsh:(n:Int) / 65536=(a:Int):=by omega
   have hand:bits .and .u32 (a:Int) 255=(b:Int):=by rw[Xe a hal];omega
   have hbl:=I5 b hb256
   have HBL:=hid hbl
   have Bd:=hid hb
   have hai:(a:Int)<4294967296:=by omega
   have hbi:(b:Int)<256:=by omega
   have a1:∀w:World,(Op.stringOp .add (strOf (pj n 1)) (strOf (Lib.decDigits b))).run Tryz.prog w=.ok (.string (strOf (pj n 1++Lib.decDigits b))) w:=fun w=>str_add _ _ w (by have h1:=vW.out;have h2:=HBL.out;simp only[pj]at h1⊢;simp;omega)
   have a2:∀w:World,(Op.stringOp .add (strOf (pj n 1++Lib.decDigits b)) ⟨#[46]⟩).run Tryz.prog w=.ok (.string (strOf (pj n 2))) w:=fun w=>by
    have e:pj n 2=pj n 1++Lib.decDigits b++[46]:=by rw[Bd.out];rfl
    rw[e]
    exact str_add _ [46] w (by have h1:=vW.out;have h2:=HBL.out;simp only[pj]at h1⊢;simp;omega)
   clear hb ha hal hbl
   generalize hX:strOf (pj n 1)=X at a1⊢
   generalize hY:strOf (Lib.decDigits b)=Y at a1
   generalize hZ:strOf (pj n 1++Lib.decDigits b)=Z at a1 a2
   generalize hV:strOf (pj n 2)=V at a2
   have kU:=hid hY
   have HXX:=hid hX
   have HZZ:=hid hZ
   have HVV:=hid hV
   clear hV
   clear hX hY hZ
   go_wp2_with fail
   refine(Tab.I4 b (by omega) _ (HT.out.below HB.out)).mono ?_
   rw[kU.out]
   rintro e w2 ⟨rfl,hb2⟩
   have HB2:Hid (Below w.heap.size w w2):=bel HB.out hb2
   clear hb2
   go_wp2
   go_roundw
   case rel=>exact⟨2,by omega,by rw[HVV.out],rfl,HB2⟩
   case measure=>simp[intOf]
  ·obtain⟨b,hb⟩:∃b,b=n / 256%256:=⟨_,rfl⟩
   have hb256:b<256:=by omega
   obtain⟨a,ha⟩:∃a,a=n / 256:=⟨_,rfl⟩
   have hal:a<4294967296:=by omega
   have hsh:(n:Int) / 256=(a:Int):=by omega
   have hand:bits .and .u32 (a:Int) 255=(b:Int):=by rw[Xe a hal];omega
   have hbl:=I5 b hb256
   have HBL:=hid hbl
   have Bd:=hid hb
   have hai:(a:Int)<4294967296:=by omega
   have hbi:(b:Int)<256:=by omega
   have a1:∀w:World,(Op.stringOp .add (strOf (pj n 2)) (strOf (Lib.decDigits b))).run Tryz.prog w=.ok (.string (strOf (pj n 2++Lib.decDigits b))) w:=fun w=>str_add _ _ w (by have h1:=vW.out;have h2:=HBL.out;simp only[pj]at h1⊢;simp;omega)
   have a2:∀w:World,(Op.stringOp .add (strOf (pj n 2++Lib.decDigits b)) ⟨#[46]⟩).run Tryz.prog w=.ok (.string (strOf (pj n 3))) w:=fun w=>by
    have e:pj n 3=pj n 2++Lib.decDigits b++[46]:=by rw[Bd.out];rfl
    rw[e]
    exact str_add _ [46] w (by have h1:=vW.out;have h2:=HBL.out;simp only[pj]at h1⊢;simp;omega)
   clear hb ha hal hbl
   generalize hX:strOf (pj n 2)=X at a1⊢
   generalize hY:strOf (Lib.decDigits b)=Y at a1
   generalize hZ:strOf (pj n 2++Lib.decDigits b)=Z at a1 a2
   generalize hV:strOf (pj n 3)=V at a2
   have kU:=hid hY
   have HXX:=hid hX
   have HZZ:=hid hZ
   have HVV:=hid hV
   clear hV
   clear hX hY hZ
   go_wp2_with fail
   refine(Tab.I4 b (by omega) _ (HT.out.below HB.out)).mono ?_
   rw[kU.out]
   rintro e w2 ⟨rfl,hb2⟩
   have HB2:Hid (Below w.heap.size w w2):=bel HB.out hb2
   clear hb2
   go_wp2
   go_roundw
   case rel=>exact⟨3,by omega,by rw[HVV.out],rfl,HB2⟩
   case measure=>simp[intOf]
  ·obtain⟨b,hb⟩:∃b,b=n%256:=⟨_,rfl⟩
   have hb256:b<256:=by omega
   obtain⟨a,ha⟩:∃a,a=n:=⟨_,rfl⟩
   have hal:a<4294967296:=by omega
   have hsh:(n:Int) / 1=(a:Int):=by omega
   have hand:bits .and .u32 (a:Int) 255=(b:Int):=by rw[Xe a hal];omega
   have hbl:=I5 b hb256
   have HBL:=hid hbl
   have Bd:=hid hb
   have hai:(a:Int)<4294967296:=by omega
   have hbi:(b:Int)<256:=by omega
   have a1:∀w:World,(Op.stringOp .add (strOf (pj n 3)) (strOf (Lib.decDigits b))).run Tryz.prog w=.ok (.string (strOf (pj n 3++Lib.decDigits b))) w:=fun w=>str_add _ _ w (by have h1:=vW.out;have h2:=HBL.out;simp only[pj]at h1⊢;simp;omega)
   have aeX:Hid (pj n 3++Lib.decDigits b=pj n 4):=by show _=_;rw[Bd.out];rfl
   clear hb ha hal hbl
   generalize hX:strOf (pj n 3)=X at a1⊢
   generalize hY:strOf (Lib.decDigits b)=Y at a1
   generalize hZ:strOf (pj n 3++Lib.decDigits b)=Z at a1
   have kU:=hid hY
   have HXX:=hid hX
   have HZZ:=hid hZ
   clear hX hY hZ
   go_wp2_with fail
   refine(Tab.I4 b (by omega) _ (HT.out.below HB.out)).mono ?_
   rw[kU.out]
   rintro e w2 ⟨rfl,hb2⟩
   have HB2:Hid (Below w.heap.size w w2):=bel HB.out hb2
   clear hb2
   go_wp2
   go_roundw
   case rel=>exact⟨4,by omega,by rw[←HZZ.out,aeX.out],rfl,HB2⟩
   case measure=>simp[intOf]
  go_wp2
  go_ret
  exact⟨rfl,HB.out⟩
end Go.Proofs.YtmpeaoacaecgpaaGreatDoor.Gl
namespace Go.Proofs.YtmpeaoacaecgpaaGreatDoor.HstP
open Go.RowKit Base cO oO wu WU
def FRB:List UInt8:=[0,9,10,13,32,35,47,58,60,62,63,64,91,92,93,94,124]
def U1 (c:UInt8):Bool:=FRB.contains c
def JU (d:Bool) (c:UInt8):Bool:=U1 c||(d&&(decide (c.toNat<32)||(c==127||c==37)))
theorem Vd (c:UInt8):JU false c=U1 c:=by simp[JU]
def okb (d:Bool) (c:UInt8):Bool:= !(JU d c)&&(!d||decide (c.toNat≤126))
def oks (d:Bool) (L:List UInt8):Bool:=L.all (okb d)
def am8 (V:List Nat):List UInt8:=nP.prt fun i=>V.getD i 0
def addr (M:List UInt8):Option (List UInt8):=match six M with
 |none=>none
 |some V=>some (91::(am8 V++[93]))
def hbr (M:List UInt8):Option (List UInt8):=if Lib.hasSuffix M [93]=true then addr (Lib.trimSuffix M [93])else none
def XB (M:List UInt8):Option (List UInt8):=if M=[]then none else if ends M=true then(NR M).map Gl.pr else some M
def SL (L:List UInt8):Option (List UInt8):=if oks true L=true then XB (lower L)else none
def zA (s:List UInt8):Option (List UInt8):=if oks false s=true then some (EscE.enc 0 s)else none
def hst (s:List UInt8) (sp:Bool):Option (List UInt8):=if s.head?=some 91 then hbr s.tail else if sp=true then SL (fU.dec s)else zA s
def HV (o:Option (List UInt8)):Value:=match o with
 |none=>.tuple #[.string (strOf []),.bool false]
 |some L=>.tuple #[.string (strOf L),.bool true]
theorem Vh (c:UInt8):decide (0≤Lib.indexByte FRB c)=U1 c:=by
 have H:∀n:Fin 256,decide (0≤Lib.indexByte FRB (UInt8.ofNat n.val))=U1 (UInt8.ofNat n.val):=by decide+kernel
 have:=H ⟨c.toNat,c.toNat_lt⟩
 simpa using this
theorem vM (c:UInt8):okb true c=(!(JU true c)&&decide (c.toNat≤126)):=by simp[okb]
theorem qX (d:Bool) (L:List UInt8) (k:Nat) (h:k<L.length):oks d (L.take (k+1))=(oks d (L.take k)&&okb d L[k]):=by
 unfold oks
 rw[List.take_succ_eq_append_getElem h,List.all_append]
 simp
theorem GU (d:Bool) (L:List UInt8) (k:Nat) (h:k<L.length) (hn:okb d L[k]=false):oks d L=false:=by
 unfold oks
 rw[List.all_eq_false]
 exact⟨L[k],List.getElem_mem h,by rw[hn];exact Bool.false_ne_true⟩
end Go.Proofs.YtmpeaoacaecgpaaGreatDoor.HstP
namespace Go.Proofs.YtmpeaoacaecgpaaGreatDoor.PthP
open Go.RowKit Base cO dI
def xW (L:List UInt8):Bool:=decide (L=[46])||decide (lower L=[37,50,101])
def Bo (L:List UInt8):Bool:=decide (lower L=[46,46])||decide (lower L=[46,37,50,101])||decide (lower L=[37,50,101,46])||decide (lower L=[37,50,101,37,50,101])
def drv (L:List UInt8):Bool:=match L with
 |[a,b]=>letter (a.toNat:Int)&&(decide (b=58)||decide (b=124))
 |_=>false
def nrm (L:List UInt8):Bool:=match L with
 |[a,b]=>letter (a.toNat:Int)&&decide (b=58)
 |_=>false
def JR (L:List UInt8):Bool:=match L with
 |[a,b]=>drv [a,b]
 |a::b::c::_=>drv [a,b]&&(decide (c=47)||decide (c=92)||decide (c=63)||decide (c=35))
 |_=>false
theorem low46 (c:UInt8):low c=46↔c=46:=by
 have H:∀n:Fin 256,low (UInt8.ofNat n.val)=46↔UInt8.ofNat n.val=46:=by decide+kernel
 have:=H ⟨c.toNat,c.toNat_lt⟩
 simpa using this
theorem jg (c:UInt8) (L:List UInt8):lower (c::L)=low c::lower L:=rfl
theorem uD (L:List UInt8):lower L=[46]↔L=[46]:=by
 constructor
 ·intro h
  match L,h with
  |[c],h=>rw[jg]at h;injection h with h _;rw[(low46 c).1 h]
  |_::_::_,h=>simp[lower]at h
  |[],h=>simp[lower]at h
 rintro rfl;rfl
theorem dbl_dot (L:List UInt8):Bo (46::L)=xW L:=by
 have e:low 46=46:=rfl
 unfold Bo xW
 rw[jg,e,Bool.eq_iff_iff]
 simp[←uD L]
theorem U3 (c:UInt8) (L:List UInt8) (hc:c≠46):Bo (c::L)=(decide (3<(c::L).length)&&(xW ((c::L).take 3)&&xW ((c::L).drop 3))):=by
 have hl:low c≠46:=fun h=>hc ((low46 c).1 h)
 match L with
 |[]=>simp[Bo,lower,hl]
 |[_]=>simp[Bo,lower,hl]
 |[_,_]=>simp[Bo,lower,hl]
 |a::b::d::L=>
  unfold Bo xW
  simp only[List.take_succ_cons,List.take_zero,List.drop_succ_cons,List.drop_zero,jg,List.length_cons]
  rw[Bool.eq_iff_iff]
  simp[hl,←uD (d::L),jg,show lower ([]:List UInt8)=[]from rfl]
  constructor
  ·rintro(⟨h1,h2,h3,h4,h5⟩|⟨h1,h2,h3,h4⟩)
   ·exact⟨⟨h1,h2,h3⟩,.inl ⟨h4,h5⟩⟩
   exact⟨⟨h1,h2,h3⟩,.inr h4⟩
  rintro⟨⟨h1,h2,h3⟩,⟨h4,h5⟩|h4⟩
  ·exact .inl ⟨h1,h2,h3,h4,h5⟩
  exact .inr ⟨h1,h2,h3,h4⟩
end Go.Proofs.YtmpeaoacaecgpaaGreatDoor.PthP
namespace Go.Proofs.YtmpeaoacaecgpaaGreatDoor.acL
open Go.RowKit Base Base2 cO dI PthP
theorem tl (s:ByteArray):s.toList=s.data.toList:=by
 obtain⟨d⟩:=s;rw[ByteArray.toList_mk]
theorem PN (s:ByteArray) (L:List UInt8):(s.toList==L)=decide (s.data.toList=L):=by
 rw[tl,Bool.eq_iff_iff];simp
theorem oz (M L:List UInt8):((strOf M).toList==L)=decide (M=L):=PN (strOf M) L
theorem kE (s:ByteArray) (w:World) (hs:s.size≤maxLen):Calls Tryz.prog 345 #[.string s] w fun e w'=>e=.returned (.bool (xW s.data.toList))∧Below w.heap.size w w':=by
 obtain⟨o,ho⟩:∃o,o=xW s.data.toList:=⟨_,rfl⟩
 rw[←ho]
 by_cases h1:s.data.toList=[46]
 ·have q1:(s.toList==[46])=true:=by rw[PN];exact decide_eq_true h1
  have HO:Hid (o=true):=by show _=_;rw[ho];unfold xW;rw[decide_eq_true h1];rfl
  clear h1 ho
  go_enter Tryz.func345,Tryz.ntmps345
  go_wp2
  go_ret
  exact⟨ak HO.out.symm,Below.refl _ _⟩
 have q1:(s.toList==[46])=false:=by rw[PN];exact decide_eq_false h1
 obtain⟨V,hV⟩:∃V,V=strOf (lower s.data.toList):=⟨_,rfl⟩
 have q2:(V.toList==[37,50,101])=o:=by rw[hV,oz,ho];unfold xW;rw[decide_eq_false h1,Bool.false_or]
 have HV:=hid hV
 have HQ:=hid q2
 clear h1 ho hV q2
 go_enter Tryz.func345,Tryz.ntmps345
 go_wp2_with fail
 refine(cO.gI s _ hs).mono ?_
 rintro e w2 ⟨rfl,hb2⟩
 rw[←HV.out]
 go_wp2
 go_ret
 exact⟨ak HQ.out,hb2⟩
end Go.Proofs.YtmpeaoacaecgpaaGreatDoor.acL
namespace Go.Proofs.YtmpeaoacaecgpaaGreatDoor.Kr
open Go.RowKit Base Base2 cO dI PthP acL
theorem u8_eq (c:UInt8) (n:Nat) (hn:n<256):decide (c=UInt8.ofNat n)=decide (c.toNat=n):=by
 refine decide_eq_decide.2 ⟨?_,?_⟩
 ·rintro rfl;simp;omega
 intro h;rw[←h];simp
theorem eq58 (c:UInt8):decide (c=58)=decide (c.toNat=58):=u8_eq c 58 (by omega)
theorem eq124 (c:UInt8):decide (c=124)=decide (c.toNat=124):=u8_eq c 124 (by omega)
theorem LY (s:ByteArray) (h:s.size=2):s.data.toList=[s[0]'(by omega),s[1]'(by omega)]:=by
 refine List.ext_getElem ((show s.data.toList.length=s.size from Array.length_toList).trans h) fun i h1 h2=>?_
 have:i=0∨i=1:=by simp at h2;omega
 rcases this with rfl|rfl<;>rfl
theorem Iz (L:List UInt8) (h:drv L=true):L.length=2:=by
 match L,h with
 |[_,_],_=>rfl
theorem afk (L:List UInt8) (h:L.length≠2):drv L=false:=by
 cases e:drv L with
 |false=>rfl
 |true=>exact absurd (Iz L e) h
theorem afU (L:List UInt8) (h:drv L=false):nrm L=false:=by
 match L,h with
 |[],_=>rfl
 |[_],_=>rfl
 |[a,b],h=>
  simp only[drv,nrm]at h⊢
  cases hl:letter (a.toNat:Int)with
  |false=>rfl
  |true=>
   rw[hl]at h
   simp at h
   simp[h.1]
 |_::_::_::_,_=>rfl
theorem afV (a b:UInt8) (h:drv [a,b]=true):nrm [a,b]=decide (b=58):=by
 simp only[drv,nrm,Bool.and_eq_true]at h⊢
 rw[h.1,Bool.true_and]
theorem kL (s:ByteArray) (w:World):Calls Tryz.prog 282 #[.string s] w fun e w'=>e=.returned (.bool (drv s.data.toList))∧w=w':=by
 obtain⟨o,ho⟩:∃o,o=drv s.data.toList:=⟨_,rfl⟩
 rw[←ho]
 by_cases h2:s.size=2
 ·have h0:0<s.size:=by omega
  have h1:1<s.size:=by omega
  obtain⟨a,ha⟩:∃a,s[0]=a:=⟨_,rfl⟩
  obtain⟨b,hb⟩:∃b,s[1]=b:=⟨_,rfl⟩
  have q1:((s.size:Int)==2)=true:=by simp;omega
  obtain⟨p,hp⟩:∃p,p=letter (a.toNat:Int):=⟨_,rfl⟩
  have HO:Hid (o=(p&&(decide (b.toNat=58)||decide (b.toNat=124)))):=by
   show _=_
   rw[ho,LY s h2,drv,ha,hb,hp,eq58,eq124]
  have HP:=hid hp
  have H2:=hid h2
  clear ho hp h2
  by_cases e1:b.toNat=58
  ·have q2:((b.toNat:Int)==58)=true:=by simp;omega
   have HE:Hid (o=p):=by show _=_;rw[HO.out,decide_eq_true e1];simp
   clear e1
   cases p
   all_goals
    go_enter Tryz.func282,Tryz.ntmps282
    go_wp2_with fail
    refine(dI.dN _ _).mono ?_
    rintro e w2 ⟨rfl,rfl⟩
    rw[←HP.out]
    go_wp2
    go_ret
    exact⟨ak HE.out.symm,rfl⟩
  have q2:((b.toNat:Int)==58)=false:=by simp;omega
  by_cases e2:b.toNat=124
  ·have q3:((b.toNat:Int)==124)=true:=by simp;omega
   have HE:Hid (o=p):=by show _=_;rw[HO.out,decide_eq_true e2];simp
   clear e1 e2
   cases p
   all_goals
    go_enter Tryz.func282,Tryz.ntmps282
    go_wp2_with fail
    refine(dI.dN _ _).mono ?_
    rintro e w2 ⟨rfl,rfl⟩
    rw[←HP.out]
    go_wp2
    go_ret
    exact⟨ak HE.out.symm,rfl⟩
  have q3:((b.toNat:Int)==124)=false:=by simp;omega
  have HE:Hid (o=false):=by show _=_;rw[HO.out,decide_eq_false e1,decide_eq_false e2];simp
  clear e1 e2
  cases p
  all_goals
   go_enter Tryz.func282,Tryz.ntmps282
   go_wp2_with fail
   refine(dI.dN _ _).mono ?_
   rintro e w2 ⟨rfl,rfl⟩
   rw[←HP.out]
   go_wp2
   go_ret
   exact⟨ak HE.out.symm,rfl⟩
 have q1:((s.size:Int)==2)=false:=by simp;omega
 have HE:Hid (o=false):=by show _=_;rw[ho];exact afk _ (by rw[show s.data.toList.length=s.size from Array.length_toList];exact h2)
 clear h2 ho
 go_enter Tryz.func282,Tryz.ntmps282
 go_wp2
 go_ret
 exact⟨ak HE.out.symm,rfl⟩
theorem Ah (s:ByteArray) (w:World):Calls Tryz.prog 211 #[.string s] w fun e w'=>e=.returned (.bool (nrm s.data.toList))∧w=w':=by
 obtain⟨o,ho⟩:∃o,o=nrm s.data.toList:=⟨_,rfl⟩
 rw[←ho]
 obtain⟨d,hd⟩:∃d,d=drv s.data.toList:=⟨_,rfl⟩
 have HD:=hid hd
 cases d with
 |false=>
  have HE:Hid (o=false):=by show _=_;rw[ho];exact afU _ hd.symm
  clear hd ho
  go_enter Tryz.func211,Tryz.ntmps211
  go_wp2_with fail
  refine(kL _ _).mono ?_
  rintro e w2 ⟨rfl,rfl⟩
  rw[←HD.out]
  go_wp2
  go_ret
  exact⟨ak HE.out.symm,rfl⟩
 |true=>
  have h2:s.size=2:=by
   have:=Iz _ hd.symm
   rw[show s.data.toList.length=s.size from Array.length_toList]at this
   exact this
  have h1:1<s.size:=by omega
  obtain⟨b,hb⟩:∃b,s[1]=b:=⟨_,rfl⟩
  have HE:Hid (o=decide (b.toNat=58)):=by
   show _=_
   rw[ho,←eq58]
   rw[LY s h2]at hd⊢
   rw[hb]at hd⊢
   exact afV _ _ hd.symm
  clear hd ho h2
  by_cases e1:b.toNat=58
  ·have q2:((b.toNat:Int)==58)=true:=by simp;omega
   have HF:Hid (o=true):=HE.out.trans (decide_eq_true e1)
   clear e1
   go_enter Tryz.func211,Tryz.ntmps211
   go_wp2_with fail
   refine(kL _ _).mono ?_
   rintro e w2 ⟨rfl,rfl⟩
   rw[←HD.out]
   go_wp2
   go_ret
   exact⟨ak HF.out.symm,rfl⟩
  have q2:((b.toNat:Int)==58)=false:=by simp;omega
  have HF:Hid (o=false):=HE.out.trans (decide_eq_false e1)
  clear e1
  go_enter Tryz.func211,Tryz.ntmps211
  go_wp2_with fail
  refine(kL _ _).mono ?_
  rintro e w2 ⟨rfl,rfl⟩
  rw[←HD.out]
  go_wp2
  go_ret
  exact⟨ak HF.out.symm,rfl⟩
end Go.Proofs.YtmpeaoacaecgpaaGreatDoor.Kr
namespace Go.Proofs.YtmpeaoacaecgpaaGreatDoor.PthC
open Go.RowKit Base Base2 cO dI PthP acL
theorem ext_size (s:ByteArray) (a b:Nat):(s.extract a b).size≤s.size:=by
 rw[ByteArray.size_extract];omega
theorem nS (s:ByteArray) (w:World) (hs:s.size≤1073741824):Calls Tryz.prog 344 #[.string s] w fun e w'=>e=.returned (.bool (Bo s.data.toList))∧Below w.heap.size w w':=by
 have hl:s.data.toList.length=s.size:=Array.length_toList
 obtain⟨o,ho⟩:∃o,o=Bo s.data.toList:=⟨_,rfl⟩
 rw[←ho]
 obtain⟨P,hP⟩:∃P,P=Lib.hasPrefix s.data.toList [46]:=⟨_,rfl⟩
 have HP:=hid hP
 cases P with
 | true=>
  obtain⟨t,ht⟩:∃t,s.data.toList=46::t:=by
   unfold Lib.hasPrefix at hP
   match h:s.data.toList,hP with
   |c::t,hP=>
    simp at hP
    exact⟨t,by rw[hP]⟩
  have h1:1≤s.size:=by rw[←hl,ht];simp
  obtain⟨X,hX⟩:∃X,X=s.extract 1 s.size:=⟨_,rfl⟩
  have hx:s.extract 1 s.size=X:=hX.symm
  have NQ:X.data.toList=t:=by rw[hX,Regs.ext_drop s 1 s.size rfl,ht];rfl
  have hXs:X.size≤maxLen:=by rw[hX];have:=ext_size s 1 s.size;unfold maxLen;omega
  have HE:Hid (o=xW X.data.toList):=by show _=_;rw[ho,ht,dbl_dot,NQ]
  have HXS:=hid hXs
  clear hP ht hX NQ ho hl hXs
  go_enter Tryz.func344,Tryz.ntmps344
  go_wp2_with fail
  refine(Tryz.strings_HasPrefix s ⟨#[46]⟩ _).mono ?_
  rintro e w2 ⟨rfl,rfl⟩
  rw[←HP.out]
  go_wp2_with fail
  refine(kE X _ HXS.out).mono ?_
  rintro e w3 ⟨rfl,hb3⟩
  rw[←HE.out]
  go_wp2
  go_ret
  exact⟨rfl,hb3⟩
 | false=>
  by_cases h4:3<s.size
  ·obtain ⟨X,hX⟩:∃X,X=s.extract 0 3:=⟨_,rfl⟩
   obtain⟨Y,hY⟩:∃Y,Y=s.extract 3 s.size:=⟨_,rfl⟩
   have hx:s.extract 0 3=X:=hX.symm
   have hy:s.extract 3 s.size=Y:=hY.symm
   have HXS:Hid (X.size≤maxLen):=by show _≤_;rw[hX];have:=ext_size s 0 3;unfold maxLen;omega
   have HYS:Hid (Y.size≤maxLen):=by show _≤_;rw[hY];have:=ext_size s 3 s.size;unfold maxLen;omega
   obtain⟨p,hp⟩:∃p,p=xW X.data.toList:=⟨_,rfl⟩
   obtain⟨q,hq⟩:∃q,q=xW Y.data.toList:=⟨_,rfl⟩
   have HE:Hid (o=(p&&q)):=by
    show _=_
    rw[ho,hp,hq,hX,hY,Regs.ext_take,Regs.ext_drop s 3 s.size rfl]
    show Bo s.data.toList=(xW (s.data.toList.take 3)&&xW (s.data.toList.drop 3))
    match h:s.data.toList,hP with
    |[],_=>rw[h]at hl;simp at hl;omega
    |c::t,hP=>
     have hc:c≠46:=by
      rintro rfl
      simp[Lib.hasPrefix]at hP
     rw[U3 c t hc,decide_eq_true (by rw[←h,hl];exact h4),Bool.true_and]
   have HPP:=hid hp
   have HQQ:=hid hq
   have h4':(3:Int)<(s.size:Int):=by omega
   clear hP hX hY ho hl hp hq
   cases p with
   |true=>
    go_enter Tryz.func344,Tryz.ntmps344
    go_wp2_with fail
    refine(Tryz.strings_HasPrefix s ⟨#[46]⟩ _).mono ?_
    rintro e w2 ⟨rfl,rfl⟩
    rw[←HP.out]
    go_wp2_with fail
    refine(kE X _ HXS.out).mono ?_
    rintro e w3 ⟨rfl,hb3⟩
    rw[←HPP.out]
    go_wp2_with fail
    refine(kE Y _ HYS.out).mono ?_
    rintro e w4 ⟨rfl,hb4⟩
    rw[←HQQ.out]
    have HF:Hid (o=q):=by show _=_;rw[HE.out,Bool.true_and]
    go_wp2
    go_ret
    exact⟨ak HF.out.symm,bel hb3 hb4⟩
   |false=>
    have HF:Hid (o=false):=by show _=_;rw[HE.out,Bool.false_and]
    go_enter Tryz.func344,Tryz.ntmps344
    go_wp2_with fail
    refine(Tryz.strings_HasPrefix s ⟨#[46]⟩ _).mono ?_
    rintro e w2 ⟨rfl,rfl⟩
    rw[←HP.out]
    go_wp2_with fail
    refine(kE X _ HXS.out).mono ?_
    rintro e w3 ⟨rfl,hb3⟩
    rw[←HPP.out]
    go_wp2
    go_ret
    exact⟨ak HF.out.symm,hb3⟩
  have HF:Hid (o=false):=by
   show _=_
   rw[ho]
   match h:s.data.toList,hP with
   |[],_=>rfl
   |c::t,hP=>
    have hc:c≠46:=by
     rintro rfl
     simp[Lib.hasPrefix]at hP
    rw[U3 c t hc,decide_eq_false (by rw[←h,hl];exact h4),Bool.false_and]
  have h4':¬(3:Int)<(s.size:Int):=by omega
  clear hP ho hl
  go_enter Tryz.func344,Tryz.ntmps344
  go_wp2_with fail
  refine(Tryz.strings_HasPrefix s ⟨#[46]⟩ _).mono ?_
  rintro e w2 ⟨rfl,rfl⟩
  rw[←HP.out]
  go_wp2
  go_ret
  exact⟨ak HF.out.symm,Below.refl _ _⟩
end Go.Proofs.YtmpeaoacaecgpaaGreatDoor.PthC
namespace Go.Proofs.YtmpeaoacaecgpaaGreatDoor.PthD
open Go.RowKit Base Base2 cO dI PthP acL Kr
def inq (c:UInt8):Bool:=decide (c=47)||decide (c=92)||decide (c=63)||decide (c=35)
theorem ahL (c:UInt8):0≤Lib.indexByte [47,92,63,35] (c.toNat:Int).toNat.toUInt8↔inq c=true:=by
 have H:∀n:Fin 256,0≤Lib.indexByte [47,92,63,35] ((n.val:Nat):Int).toNat.toUInt8↔inq (UInt8.ofNat n.val)=true:=by decide+kernel
 have:=H ⟨c.toNat,c.toNat_lt⟩
 simpa using this
theorem UQ (L:List UInt8) (h:L.length<2):JR L=false:=by
 match L,h with
 |[],_=>rfl
 |[_],_=>rfl
theorem ae8 (L:List UInt8) (h:L.length=2):JR L=drv (L.take 2):=by
 match L,h with
 |[_,_],_=>rfl
theorem ZR (s:ByteArray) (h:2<s.size):JR s.data.toList=(drv (s.data.toList.take 2)&&inq (s[2])):=by
 have hl:s.data.toList.length=s.size:=Array.length_toList
 have h2:s.data.toList[2]'(by rw[hl];exact h)=s[2]:=rfl
 rw[←h2]
 generalize s.data.toList=L at hl
 match L,hl with
 |[],hl=>simp at hl;omega
 |[_],hl=>simp at hl;omega
 |[_,_],hl=>simp at hl;omega
 |a::b::c::t,_=>rfl
theorem PK (s:ByteArray) (w:World) (hs:s.size≤1073741824):Calls Tryz.prog 221 #[.string s] w fun e w'=>e=.returned (.bool (JR s.data.toList))∧w=w':=by
 have hl:s.data.toList.length=s.size:=Array.length_toList
 obtain⟨o,ho⟩:∃o,o=JR s.data.toList:=⟨_,rfl⟩
 rw[←ho]
 by_cases h2:s.size<2
 ·have HE:Hid (o=false):=by show _=_;rw[ho];exact UQ _ (by rw[hl];exact h2)
  have q1:(s.size:Int)<2:=by omega
  clear ho hl h2
  go_enter Tryz.func221,Tryz.ntmps221
  go_wp2
  go_ret
  exact⟨ak HE.out.symm,rfl⟩
 have q1:¬(s.size:Int)<2:=by omega
 have q2:2≤s.size:=by omega
 obtain⟨X,hX⟩:∃X,X=s.extract 0 2:=⟨_,rfl⟩
 have hx:s.extract 0 2=X:=hX.symm
 have NQ:X.data.toList=s.data.toList.take 2:=by rw[hX,Regs.ext_take];rfl
 obtain⟨d,hd⟩:∃d,d=drv X.data.toList:=⟨_,rfl⟩
 have HD:=hid hd
 by_cases h22:s.size=2
 ·have HE:Hid (o=d):=by show _=_;rw[ho,hd,NQ];exact ae8 _ (by rw[hl];exact h22)
  have q3:((s.size:Int)==2)=true:=by simp;omega
  clear ho hl h2 hX NQ hd h22
  cases d
  all_goals
   go_enter Tryz.func221,Tryz.ntmps221
   go_wp2_with fail
   refine(kL _ _).mono ?_
   rintro e w2 ⟨rfl,rfl⟩
   rw[←HD.out]
   go_wp2
   go_ret
   exact⟨ak HE.out.symm,rfl⟩
 have q3:((s.size:Int)==2)=false:=by simp;omega
 have h3:2<s.size:=by omega
 obtain⟨c,hc⟩:∃c,s[2]=c:=⟨_,rfl⟩
 obtain⟨i,hi⟩:∃i,i=inq c:=⟨_,rfl⟩
 have HE:Hid (o=(d&&i)):=by show _=_;rw[ho,hd,NQ,hi,←hc];exact ZR s h3
 have HI:=hid hi
 clear ho hl h2 hX NQ hd h22
 cases d with
 |false=>
  have HF:Hid (o=false):=by show _=_;rw[HE.out,Bool.false_and]
  clear hi
  go_enter Tryz.func221,Tryz.ntmps221
  go_wp2_with fail
  refine(kL _ _).mono ?_
  rintro e w2 ⟨rfl,rfl⟩
  rw[←HD.out]
  go_wp2
  go_ret
  exact⟨ak HF.out.symm,rfl⟩
 | true=>
  have HF:Hid (o=i):=by show _=_;rw[HE.out,Bool.true_and]
  obtain⟨z,hz⟩:∃z,z=Lib.indexByte [47,92,63,35] (c.toNat:Int).toNat.toUInt8:=⟨_,rfl⟩
  have hzi:(0≤z)↔i=true:=by rw[hz,hi];exact ahL c
  have HZ:=hid hz
  clear hi hz
  cases i with
  |true=>
   have q4:=hzi.2 rfl
   clear hzi
   go_enter Tryz.func221,Tryz.ntmps221
   go_wp2_with fail
   refine(kL _ _).mono ?_
   rintro e w2 ⟨rfl,rfl⟩
   rw[←HD.out]
   go_wp2_with fail
   refine(Tryz.strings_IndexByte ⟨#[47,92,63,35]⟩ _ _).mono ?_
   rintro e w3 ⟨rfl,rfl⟩
   rw[show(⟨#[47,92,63,35]⟩:ByteArray).data.toList=[47,92,63,35]from rfl,←HZ.out]
   go_wp2
   go_ret
   exact⟨ak HF.out.symm,rfl⟩
  |false=>
   have q4:z<0:=by
    rcases Int.lt_or_le z 0 with h|h
    ·exact h
    exact absurd (hzi.1 h) (by decide)
   have q5:¬0≤z:=by omega
   clear hzi
   go_enter Tryz.func221,Tryz.ntmps221
   go_wp2_with fail
   refine(kL _ _).mono ?_
   rintro e w2 ⟨rfl,rfl⟩
   rw[←HD.out]
   go_wp2_with fail
   refine(Tryz.strings_IndexByte ⟨#[47,92,63,35]⟩ _ _).mono ?_
   rintro e w3 ⟨rfl,rfl⟩
   rw[show(⟨#[47,92,63,35]⟩:ByteArray).data.toList=[47,92,63,35]from rfl,←HZ.out]
   go_wp2
   go_ret
   exact⟨ak ((decide_eq_false (by omega)).trans HF.out.symm),rfl⟩
end Go.Proofs.YtmpeaoacaecgpaaGreatDoor.PthD
namespace Go.Proofs.YtmpeaoacaecgpaaGreatDoor.PthE
open Go.RowKit Base Base2 PthP acL Kr
def keep (file:Bool):List ByteArray→Bool
 |[]=>true
 |[x]=>file&&nrm x.data.toList
 |_=>false
def mM (file:Bool) (l:List ByteArray):List ByteArray:=if keep file l then l else l.take (l.length - 1)
theorem GN (file:Bool) (l:List ByteArray):(mM file l).length=if keep file l then l.length else l.length - 1:=by
 unfold mM
 split
 ·rfl
 rw[List.length_take];omega
theorem xQ (file:Bool) (A:Option Addr) (n cap:Nat) (l:List ByteArray) (w:World) (hR:aY w A n (l.map Value.string)) (hnc:n≤cap) (hcm:cap≤maxLen):
  Calls Tryz.prog 285 #[.bool file,.slice A n cap] w fun e w'=>e=.returned (.slice A (if keep file l then n else n - 1) cap)∧w=w':=by
 unfold maxLen at hcm
 have hn:l.length=n:=by rw[←hR.1,List.length_map]
 obtain⟨m,hm⟩:∃m,m=if keep file l then n else n - 1:=⟨_,rfl⟩
 rw[←hm]
 match l,hn with
 |[],hn=>
  obtain rfl:n=0:=by simpa using hn.symm
  obtain rfl:m=0:=by rw[hm];rfl
  clear hm hn hR
  go_enter Tryz.func285,Tryz.ntmps285
  go_wp2
  go_ret
  exact⟨rfl,rfl⟩
 | [x],hn=>
  obtain rfl:n=1:=by simpa using hn.symm
  obtain⟨g,off,rfl,hg,hcell⟩:=hR.spot (by omega)
  have hc:=hcell 0 (by simp)
  rw[Nat.add_zero]at hc
  replace hc:w.cell? ⟨g,off,none⟩=some (.string x):=hc
  cases file with
  |false=>
   obtain rfl:m=0:=by rw[hm];rfl
   clear hm hn hR hcell
   go_enter Tryz.func285,Tryz.ntmps285
   go_wp2
   go_ret
   exact⟨rfl,rfl⟩
  |true=>
   obtain⟨b,hb⟩:∃b,b=nrm x.data.toList:=⟨_,rfl⟩
   have HM:Hid (m=if b then 1 else 0):=by
    show _=_
    rw[hm,hb]
    simp[keep]
   have HB:=hid hb
   clear hm hn hR hcell hb
   cases b with
   |true=>
    obtain rfl:m=1:=HM.out
    go_enter Tryz.func285,Tryz.ntmps285
    go_wp2_with fail
    refine(Ah x _).mono ?_
    rintro e w2 ⟨rfl,rfl⟩
    rw[←HB.out]
    go_wp2
    go_ret
    exact⟨rfl,rfl⟩
   |false=>
    obtain rfl:m=0:=HM.out
    go_enter Tryz.func285,Tryz.ntmps285
    go_wp2_with fail
    refine(Ah x _).mono ?_
    rintro e w2 ⟨rfl,rfl⟩
    rw[←HB.out]
    go_wp2
    go_ret
    exact⟨rfl,rfl⟩
 |x::y::r,hn=>
  have h2:2≤n:=by rw[←hn];simp
  have HM:Hid (m=n - 1):=by show _=_;rw[hm];rfl
  have q1:((n:Int)==0)=false:=by simp;omega
  have q2:((n:Int)==1)=false:=by simp;omega
  obtain⟨g,off,rfl,hg,hcell⟩:=hR.spot (by omega)
  have q3:((n:Int) - 1).toNat=m:=by have:=HM.out;omega
  clear hm hn hR hcell
  cases file
  all_goals
   go_enter Tryz.func285,Tryz.ntmps285
   go_wp2
   go_ret
   exact⟨by first|rfl|simp[q3],rfl⟩
end Go.Proofs.YtmpeaoacaecgpaaGreatDoor.PthE
namespace Go.Proofs.YtmpeaoacaecgpaaGreatDoor.WR
open Go.RowKit Base Base2 PthP acL Kr
def wr (first:Bool) (L:List UInt8):List UInt8:=if first&&drv L then L.take 1++[58]else EscE.enc 4 L
theorem sN (first:Bool) (s:ByteArray) (w:World) (hs:s.size≤1073741824):
  Calls Tryz.prog 346 #[.bool first,.string s] w fun e w'=>e=.returned (.string (strOf (wr first s.data.toList)))∧Below w.heap.size w w':=by
 obtain⟨d,hd⟩:∃d,d=drv s.data.toList:=⟨_,rfl⟩
 obtain⟨R,hR⟩:∃R,R=wr first s.data.toList:=⟨_,rfl⟩
 rw[←hR]
 have HD:=hid hd
 cases first with
 | true=>
  cases d with
  |true=>
   have h2:s.size=2:=by
    have:=Iz _ hd.symm
    rw[show s.data.toList.length=s.size from Array.length_toList]at this
    exact this
   obtain⟨X,hX⟩:∃X,X=s.extract 0 1:=⟨_,rfl⟩
   have hx:s.extract 0 1=X:=hX.symm
   have NQ:X=strOf (s.data.toList.take 1):=by rw[hX,Regs.ext_take]
   have hRR:R=s.data.toList.take 1++[58]:=by rw[hR];unfold wr;rw[←hd];rfl
   have a1:∀w:World,(Op.stringOp .add X ⟨#[58]⟩).run Tryz.prog w=.ok (.string (strOf R)) w:=fun w=>by
    rw[NQ,hRR]
    exact dL _ ⟨#[58]⟩ w (by rw[size_strOf,List.length_take];show _+1≤_;omega)
   have q1:(1:Int)≤(s.size:Int):=by omega
   have q2:1≤s.size:=by omega
   clear hd hR hX NQ hRR h2
   go_enter Tryz.func346,Tryz.ntmps346
   go_wp2_with fail
   refine(kL s _).mono ?_
   rintro e w2 ⟨rfl,rfl⟩
   rw[←HD.out]
   go_wp2
   go_ret
   exact⟨rfl,Below.refl _ _⟩
  |false=>
   have HRR:Hid (R=EscE.enc 4 s.data.toList):=by show _=_;rw[hR];unfold wr;rw[←hd];rfl
   have hcv:=fun(w:World) s=>run_bytes_of_string (P:=Tryz.prog) w 9 45 5 s Tryz.underlying9 Tryz.underlying45 Tryz.underlying5
   clear hd hR
   go_enter Tryz.func346,Tryz.ntmps346
   go_wp2_with fail
   refine(kL s _).mono ?_
   rintro e w2 ⟨rfl,rfl⟩
   rw[←HD.out]
   go_wp2_with fail
   clear hcv
   refine(EscE.eF 4 _ _ _ s.data.toList _ (fV s _ w _) hs).mono ?_
   rintro e w3 ⟨rfl,hb3⟩
   rw[←HRR.out]
   go_wp2
   go_ret
   exact⟨rfl,bel (((Below.refl w.heap.size w).alloc (Nat.le_refl _) _).drew) hb3⟩
 |false=>
  have HRR:Hid (R=EscE.enc 4 s.data.toList):=by show _=_;rw[hR];rfl
  have hcv:=fun(w:World) s=>run_bytes_of_string (P:=Tryz.prog) w 9 45 5 s Tryz.underlying9 Tryz.underlying45 Tryz.underlying5
  clear hd hR
  go_enter Tryz.func346,Tryz.ntmps346
  go_wp2_with fail
  clear hcv
  refine(EscE.eF 4 _ _ _ s.data.toList _ (fV s _ w _) hs).mono ?_
  rintro e w3 ⟨rfl,hb3⟩
  rw[←HRR.out]
  go_wp2
  go_ret
  exact⟨rfl,bel (((Below.refl w.heap.size w).alloc (Nat.le_refl _) _).drew) hb3⟩
end Go.Proofs.YtmpeaoacaecgpaaGreatDoor.WR
