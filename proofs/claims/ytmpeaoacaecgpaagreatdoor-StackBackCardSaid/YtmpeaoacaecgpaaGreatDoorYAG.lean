/- Texts that belong together: BH, QudF, Tab, Gl, QudH. -/
import Derived.Test.YtmpeaoacaecgpaaGreatDoorYAF
import Derived.Test.YtmpeaoacaecgpaaGreatDoorYAA
import Derived.Test.YtmpeaoacaecgpaaGreatDoorShelf
import Derived.Lib.LaidU8
import Derived.Lib.LaidTab
import Derived.Lib.SmallJoins
import Derived.Sort.Grow
import Derived.Laws.BitsAllLaws
set_option linter.unusedSimpArgs false
set_option linter.unusedVariables false
set_option maxRecDepth 100000
set_option maxHeartbeats 64000000
namespace Go.Proofs.YtmpeaoacaecgpaaGreatDoor.BH
open Go.RowKit Base Base2 dI oO Zx QudB acN acO
def oN (o:Option Nat):Value:=match o with
 |some v=>.tuple #[.int .u32 v,.bool true]
 |none=>.tuple #[.int .u32 0,.bool false]
theorem dh (o:Option Nat) (h:o=none):oN o=.tuple #[.int .u32 0,.bool false]:=by rw[h];rfl
theorem yX (o:Option Nat) (v:Nat) (h:o=some v):oN o=.tuple #[.int .u32 v,.bool true]:=by rw[h];rfl
theorem drop_at {α:Type} (R:List α) (k:Nat) (p:α) (hk:k<R.length) (h:R[k]=p):R.drop k=p::R.drop (k+1):=by rw[←h];exact List.drop_eq_getElem_cons hk
theorem CW (most acc:Nat) (p:List UInt8) (r:List (List UInt8)) (h:num p=none):mZ most acc (p::r)=none:=by
 cases r<;>(unfold mZ;rw[h])
theorem ng (most acc:Nat) (p:List UInt8) (v:Nat) (h:num p=some v) (hv:v<most):mZ most acc [p]=some (acc+v):=by unfold mZ;rw[h];simp only;rw[if_pos hv]
theorem jV (most acc:Nat) (p:List UInt8) (v:Nat) (h:num p=some v) (hv:¬v<most):mZ most acc [p]=none:=by unfold mZ;rw[h];simp only;rw[if_neg hv]
theorem zK (most acc:Nat) (p q:List UInt8) (r:List (List UInt8)) (v:Nat) (h:num p=some v) (hv:v≤255):mZ most acc (p::q::r)=mZ (most / 256) (acc+v*(most / 256)) (q::r):=by
 conv=>lhs;unfold mZ
 rw[h];simp only;rw[if_pos hv]
theorem qj (most acc:Nat) (p q:List UInt8) (r:List (List UInt8)) (v:Nat) (h:num p=some v) (hv:¬v≤255):mZ most acc (p::q::r)=none:=by unfold mZ;rw[h];simp only;rw[if_neg hv]
theorem drop_end {α:Type} (R:List α) (k:Nat) (h:R.length=k):R.drop k=[]:=by subst h;exact List.drop_length
def mk:Nat→Nat
 |0=>4294967296
 |1=>16777216
 |2=>65536
 |3=>256
 |_=>1
theorem D9 (v m:Nat) (hm:m≤4294967296):v<m↔sat v<m:=by unfold sat;omega
theorem G9 (v:Nat) (h:sat v<4294967296):sat v=v:=by unfold sat at h⊢;omega
theorem parse_any (s:ByteArray) (w:World) (hs:s.size≤900000) (hM:Max w):Calls Tryz.prog 326 #[.string s] w fun e w'=>e=.returned (oN (NR s.data.toList))∧Below w.heap.size w w':=by
 have hsl:s.data.toList.length=s.size:=Array.length_toList
 obtain⟨S,hS⟩:∃S,S=NR s.data.toList:=⟨_,rfl⟩
 obtain⟨R,hR⟩:∃R,R=bZ (oH s.data.toList):=⟨_,rfl⟩
 have hS2:S=if R.length≤4 then mZ 4294967296 0 R else none:=by rw[hS,hR];rfl
 obtain⟨U,hU⟩:∃U,U=strOf (oH s.data.toList):=⟨_,rfl⟩
 have hUd:U.data.toList=oH s.data.toList:=by rw[hU];rfl
 have hul:(oH s.data.toList).length≤s.size:=by rw[←hsl];exact Fa _
 have hus:U.size≤900000:=by rw[hU,size_strOf];omega
 have Qi:0<R.length:=by rw[hR];exact List.length_pos_iff.2 (qY _)
 have hrl:R.length≤900001:=by have:=rW (oH s.data.toList);rw[hR];omega
 have Bf:Hid (∀p ∈ R,p.length≤900000):=by
  intro p hp
  rw[hR]at hp
  have:=qK _ p hp
  omega
 have hUR:bZ U.data.toList=R:=by rw[hUd,hR]
 have HUR:=hid hUR
 have HU:=hid hU
 have SB:=hid hM
 have HS2:=hid hS2
 rw[←hS]
 clear hS hS2 hR hU hUd hul hUR hM hsl
 go_enter Tryz.func326,Tryz.ntmps326
 go_wp2_with fail
 refine(Nv s _ (by omega)).mono ?_
 rintro e w2 ⟨rfl,hw2⟩
 subst hw2
 rw[←HU.out]
 go_wp2_with fail
 refine(aiJ U _ (by omega) SB.out).mono ?_
 rw[HUR.out]
 rintro e w3 ⟨A,n,c,rfl,hn,hnc,hcm,hrd,hb⟩
 rw[←hn]at Qi hrl
 obtain⟨g,off,rfl,hg,hcell⟩:=hrd.spot Qi
 have aeW:=hid hcell
 have HB:=hid hb
 have HN:=hid hn
 unfold maxLen at hcm
 clear hn hrd hcell hb
 by_cases h4:n≤4
 ·have h4i:¬(3:Int)<(n:Int) - 1:=by omega
  have HW0:Hid (S=mZ 4294967296 0 (R.drop 0)):=by show _=_;rw[HS2.out,if_pos (by rw[←HN.out];exact h4),List.drop_zero]
  go_wp2
  obtain⟨q,hq⟩:∃q:Int,q=(n:Int) - 1:=⟨_,rfl⟩
  rw[←hq]
  have HQ:=hid hq
  clear hq h4i
  generalize decide ((3:Int)<q)=dd
  go_loopw [6,7,8,9,10,21] (fun va _ _ _ _ vk wr=>∃(k acc:Nat),k≤n∧vk=.int .i64 (k:Int)∧wr=w3∧va=.int .u64 (acc:Int)∧acc<4294967296∧Hid (k<n→acc+mk k≤4294967296)∧Hid (S=mZ (mk k) acc (R.drop k))) (fun _ _ _ _ _ vk _=>n - (intOf vk).toNat)
  case atStart=>exact⟨0,0,Nat.zero_le _,rfl,rfl,rfl,by omega,fun _=>Nat.le_refl _,HW0⟩
  case round=>
   clear HW0
   obtain⟨k,acc,hk,rfl,rfl,rfl,nG,HAC,HW⟩:=hrel
   by_cases hlt:k<n
   ·have hacc := HAC.out hlt
    have hk4:k=0∨k=1∨k=2∨k=3:=by omega
    clear HAC
    rcases hk4 with rfl|rfl|rfl|rfl
    ·simp only[mk]at hacc HW
     obtain⟨p,hp⟩:∃p,p=R[0]'(by rw[←HN.out];exact hlt):=⟨_,rfl⟩
     obtain⟨Y,hY⟩:∃Y,Y=strOf p:=⟨_,rfl⟩
     have hcl:=(aeW.out 0 (by rw[List.length_map,List.length_map,←HN.out];exact hlt))
     rw[List.getElem_map,List.getElem_map,←hp,←hY]at hcl
     try rw[Nat.add_zero]at hcl
     have kU:Hid (Y.data.toList=p):=by show _=_;rw[hY];rfl
     have hys:Y.size≤1073741824:=by
      rw[hY,size_strOf]
      have:=Bf.out p (by rw[hp];exact List.getElem_mem _)
      omega
     have HDR:Hid (R.drop 0=p::R.drop 1):=drop_at R 0 p (by rw[←HN.out];exact hlt) hp.symm
     clear hp hY
     cases hnp:num p with
     |none=>
      have HV:=hid (yQ p hnp)
      have HE:=hid (dh S (by rw[HW.out,HDR.out];exact CW _ _ _ _ hnp))
      clear hnp
      go_wp2_with fail
      refine(bf Y _ hys).mono ?_
      rw[kU.out,HV.out]
      rintro e w4 ⟨rfl,hw4⟩
      subst hw4
      go_wp2
      go_ret2
      exact⟨by rw[HE.out];rfl,HB.out⟩
     | some v=>
      have HV:=hid (yR p v hnp)
      obtain⟨x,hx⟩:∃x,x=sat v:=⟨_,rfl⟩
      have hx2:x≤4294967296:=by rw[hx];unfold sat;omega
      rw[←hx]at HV
      by_cases hq:n=1
      ·have vC:R.drop 1=[]:=drop_end R _ (by rw[←HN.out];exact hq)
       have hA:((0:Int)==q)=true:=by have:=HQ.out;simp;omega
       have hB:¬(0:Int)<q:=by have:=HQ.out;omega
       have hC:4 - q=4:=by have:=HQ.out;omega
       have Cm:=hid hq
       clear hq
       by_cases hxm:x<4294967296
       ·have hxv:x=v:=by rw[hx];exact G9 v (by rw[←hx];omega)
        have HE:=hid ((show S=mZ 4294967296 acc [p]by rw[HW.out,HDR.out,vC]).trans (ng 4294967296 acc p v hnp ((D9 v 4294967296 (by omega)).2 (by rw[←hx];exact hxm))))
        have UE:=hid hxv
        have YM:=hid vC
        clear hnp hx hxv vC
        have eG:Hid ((acc:Int)+(x:Int)=((acc+v:Nat):Int)):=by show _=_;rw[UE.out];omega
        have hxi:(x:Int)<4294967296:=by omega
        have hx0:(0:Int)≤(x:Int):=by omega
        have hai:(acc:Int)+4294967296≤4294967296:=by omega
        have ha0:(0:Int)≤(acc:Int):=by omega
        have hvb:acc+v<4294967296:=by have:=UE.out;omega
        have Fh:=hid hvb
        clear hxm hx2 hacc hvb
        have Gf:Hid (S=mZ (mk 1) (acc+v) (R.drop 1)):=by show _=_;rw[YM.out];exact HE.out
        generalize (x:Int)=X at hxi hx0 eG HV
        generalize (acc:Int)=AC at hai ha0 eG⊢
        go_wp2_with fail
        refine(bf Y _ hys).mono ?_
        rw[kU.out,HV.out]
        rintro e w4 ⟨rfl,hw4⟩
        subst hw4
        go_wp2
        go_roundw
        case rel=>exact⟨1,acc+v,by have:=Cm.out;omega,by go_num,by first|rfl|trivial,by first|exact int_eq eG.out|(rw[←eG.out]),Fh.out,fun h=>absurd h (by have:=Cm.out;omega),Gf⟩
        case measure=>(have:=Cm.out;simp[intOf];omega)
       have HE:=hid (dh S ((show S=mZ 4294967296 acc [p]by rw[HW.out,HDR.out,vC]).trans (jV 4294967296 acc p v hnp (fun h=>hxm (by rw[hx];exact(D9 v 4294967296 (by omega)).1 h)))))
       have hxi:¬(x:Int)<4294967296:=by omega
       have hx0:(0:Int)≤(x:Int):=by omega
       have KN:(x:Int)≤4294967296:=by omega
       clear hnp hx vC hxm hx2
       generalize (x:Int)=X at hxi hx0 KN HV
       generalize (acc:Int)=AC
       go_wp2_with fail
       refine(bf Y _ hys).mono ?_
       rw[kU.out,HV.out]
       rintro e w4 ⟨rfl,hw4⟩
       subst hw4
       go_wp2
       go_ret2
       exact⟨by rw[HE.out];rfl,HB.out⟩
      have hA:((0:Int)==q)=false:=by have:=HQ.out;simp;omega
      have hB:(0:Int)<q:=by have:=HQ.out;omega
      have hlt2:1<n:=by omega
      obtain⟨p2,hp2⟩:∃p2,p2=R[1]'(by rw[←HN.out];exact hlt2):=⟨_,rfl⟩
      have lF:R.drop 1=p2::R.drop 2:=drop_at R 1 p2 (by rw[←HN.out];exact hlt2) hp2.symm
      have Cj:=hid hlt2
      clear hp2 hq hlt2
      by_cases hxm:x≤255
      ·have hxv:x=v:=by rw[hx];exact G9 v (by rw[←hx];omega)
       have HE:=hid ((show S=mZ 4294967296 acc (p::p2::R.drop 2)by rw[HW.out,HDR.out,lF]).trans (zK 4294967296 acc p p2 (R.drop 2) v hnp (by omega)))
       have OJ:=hid lF
       have UE:=hid hxv
       clear hnp hx hxv lF
       have eG:Hid ((acc:Int)+(x:Int)*16777216=((acc+v*16777216:Nat):Int)):=by show _=_;rw[UE.out];omega
       have hxi:(x:Int)≤255:=by omega
       have hx0:(0:Int)≤(x:Int):=by omega
       have hai:(acc:Int)+4294967296≤4294967296:=by omega
       have ha0:(0:Int)≤(acc:Int):=by omega
       have Fh:Hid (acc+v*16777216+16777216≤4294967296):=by have:=UE.out;show _≤_;omega
       have Gf:Hid (S=mZ (mk 1) (acc+v*16777216) (R.drop 1)):=by show _=_;rw[OJ.out];exact HE.out
       clear hxm hx2 hacc
       generalize (x:Int)=X at hxi hx0 eG HV
       generalize (acc:Int)=AC at hai ha0 eG⊢
       go_wp2_with fail
       refine(bf Y _ hys).mono ?_
       rw[kU.out,HV.out]
       rintro e w4 ⟨rfl,hw4⟩
       subst hw4
       go_wp2
       go_roundw
       case rel=>exact⟨1,acc+v*16777216,by have:=Cj.out;omega,by go_num,by first|rfl|trivial,by first|exact int_eq eG.out|(rw[←eG.out]),by have:=Fh.out;omega,fun _=>Fh.out,Gf⟩
       case measure=>(have:=Cj.out;simp[intOf];omega)
      have HE:=hid (dh S ((show S=mZ 4294967296 acc (p::p2::R.drop 2)by rw[HW.out,HDR.out,lF]).trans (qj 4294967296 acc p p2 (R.drop 2) v hnp (fun h=>hxm (by rw[hx];unfold sat;omega)))))
      have hxi:¬(x:Int)≤255:=by omega
      have Qy:(255:Int)<(x:Int):=by omega
      have KN:(x:Int)≤4294967296:=by omega
      clear hnp hx lF hxm hx2
      generalize (x:Int)=X at hxi Qy KN HV
      generalize (acc:Int)=AC
      go_wp2_with fail
      refine(bf Y _ hys).mono ?_
      rw[kU.out,HV.out]
      rintro e w4 ⟨rfl,hw4⟩
      subst hw4
      go_wp2
      go_ret2
      exact⟨by rw[HE.out];rfl,HB.out⟩
    ·simp only[mk]at hacc HW
     obtain⟨p,hp⟩:∃p,p=R[1]'(by rw[←HN.out];exact hlt):=⟨_,rfl⟩
     obtain⟨Y,hY⟩:∃Y,Y=strOf p:=⟨_,rfl⟩
     have hcl:=(aeW.out 1 (by rw[List.length_map,List.length_map,←HN.out];exact hlt))
     rw[List.getElem_map,List.getElem_map,←hp,←hY]at hcl
     try rw[Nat.add_zero]at hcl
     have kU:Hid (Y.data.toList=p):=by show _=_;rw[hY];rfl
     have hys:Y.size≤1073741824:=by
      rw[hY,size_strOf]
      have:=Bf.out p (by rw[hp];exact List.getElem_mem _)
      omega
     have HDR:Hid (R.drop 1=p::R.drop 2):=drop_at R 1 p (by rw[←HN.out];exact hlt) hp.symm
     clear hp hY
     cases hnp:num p with
     |none=>
      have HV:=hid (yQ p hnp)
      have HE:=hid (dh S (by rw[HW.out,HDR.out];exact CW _ _ _ _ hnp))
      clear hnp
      go_wp2_with fail
      refine(bf Y _ hys).mono ?_
      rw[kU.out,HV.out]
      rintro e w4 ⟨rfl,hw4⟩
      subst hw4
      go_wp2
      go_ret2
      exact⟨by rw[HE.out];rfl,HB.out⟩
     | some v=>
      have HV:=hid (yR p v hnp)
      obtain⟨x,hx⟩:∃x,x=sat v:=⟨_,rfl⟩
      have hx2:x≤4294967296:=by rw[hx];unfold sat;omega
      rw[←hx]at HV
      by_cases hq:n=2
      ·have vC:R.drop 2=[]:=drop_end R _ (by rw[←HN.out];exact hq)
       have hA:((1:Int)==q)=true:=by have:=HQ.out;simp;omega
       have hB:¬(1:Int)<q:=by have:=HQ.out;omega
       have hC:4 - q=3:=by have:=HQ.out;omega
       have Cm:=hid hq
       clear hq
       by_cases hxm:x<16777216
       ·have hxv:x=v:=by rw[hx];exact G9 v (by rw[←hx];omega)
        have HE:=hid ((show S=mZ 16777216 acc [p]by rw[HW.out,HDR.out,vC]).trans (ng 16777216 acc p v hnp ((D9 v 16777216 (by omega)).2 (by rw[←hx];exact hxm))))
        have UE:=hid hxv
        have YM:=hid vC
        clear hnp hx hxv vC
        have eG:Hid ((acc:Int)+(x:Int)=((acc+v:Nat):Int)):=by show _=_;rw[UE.out];omega
        have hxi:(x:Int)<16777216:=by omega
        have hx0:(0:Int)≤(x:Int):=by omega
        have hai:(acc:Int)+16777216≤4294967296:=by omega
        have ha0:(0:Int)≤(acc:Int):=by omega
        have hvb:acc+v<4294967296:=by have:=UE.out;omega
        have Fh:=hid hvb
        clear hxm hx2 hacc hvb
        have Gf:Hid (S=mZ (mk 2) (acc+v) (R.drop 2)):=by show _=_;rw[YM.out];exact HE.out
        generalize (x:Int)=X at hxi hx0 eG HV
        generalize (acc:Int)=AC at hai ha0 eG⊢
        go_wp2_with fail
        refine(bf Y _ hys).mono ?_
        rw[kU.out,HV.out]
        rintro e w4 ⟨rfl,hw4⟩
        subst hw4
        go_wp2
        go_roundw
        case rel=>exact⟨2,acc+v,by have:=Cm.out;omega,by go_num,by first|rfl|trivial,by first|exact int_eq eG.out|(rw[←eG.out]),Fh.out,fun h=>absurd h (by have:=Cm.out;omega),Gf⟩
        case measure=>(have:=Cm.out;simp[intOf];omega)
       have HE:=hid (dh S ((show S=mZ 16777216 acc [p]by rw[HW.out,HDR.out,vC]).trans (jV 16777216 acc p v hnp (fun h=>hxm (by rw[hx];exact(D9 v 16777216 (by omega)).1 h)))))
       have hxi:¬(x:Int)<16777216:=by omega
       have hx0:(0:Int)≤(x:Int):=by omega
       have KN:(x:Int)≤4294967296:=by omega
       clear hnp hx vC hxm hx2
       generalize (x:Int)=X at hxi hx0 KN HV
       generalize (acc:Int)=AC
       go_wp2_with fail
       refine(bf Y _ hys).mono ?_
       rw[kU.out,HV.out]
       rintro e w4 ⟨rfl,hw4⟩
       subst hw4
       go_wp2
       go_ret2
       exact⟨by rw[HE.out];rfl,HB.out⟩
      have hA:((1:Int)==q)=false:=by have:=HQ.out;simp;omega
      have hB:(1:Int)<q:=by have:=HQ.out;omega
      have hlt2:2<n:=by omega
      obtain⟨p2,hp2⟩:∃p2,p2=R[2]'(by rw[←HN.out];exact hlt2):=⟨_,rfl⟩
      have lF:R.drop 2=p2::R.drop 3:=drop_at R 2 p2 (by rw[←HN.out];exact hlt2) hp2.symm
      have Cj:=hid hlt2
      clear hp2 hq hlt2
      by_cases hxm:x≤255
      ·have hxv:x=v:=by rw[hx];exact G9 v (by rw[←hx];omega)
       have HE:=hid ((show S=mZ 16777216 acc (p::p2::R.drop 3)by rw[HW.out,HDR.out,lF]).trans (zK 16777216 acc p p2 (R.drop 3) v hnp (by omega)))
       have OJ:=hid lF
       have UE:=hid hxv
       clear hnp hx hxv lF
       have eG:Hid ((acc:Int)+(x:Int)*65536=((acc+v*65536:Nat):Int)):=by show _=_;rw[UE.out];omega
       have hxi:(x:Int)≤255:=by omega
       have hx0:(0:Int)≤(x:Int):=by omega
       have hai:(acc:Int)+16777216≤4294967296:=by omega
       have ha0:(0:Int)≤(acc:Int):=by omega
       have Fh:Hid (acc+v*65536+65536≤4294967296):=by have:=UE.out;show _≤_;omega
       have Gf:Hid (S=mZ (mk 2) (acc+v*65536) (R.drop 2)):=by show _=_;rw[OJ.out];exact HE.out
       clear hxm hx2 hacc
       generalize (x:Int)=X at hxi hx0 eG HV
       generalize (acc:Int)=AC at hai ha0 eG⊢
       go_wp2_with fail
       refine(bf Y _ hys).mono ?_
       rw[kU.out,HV.out]
       rintro e w4 ⟨rfl,hw4⟩
       subst hw4
       go_wp2
       go_roundw
       case rel=>exact⟨2,acc+v*65536,by have:=Cj.out;omega,by go_num,by first|rfl|trivial,by first|exact int_eq eG.out|(rw[←eG.out]),by have:=Fh.out;omega,fun _=>Fh.out,Gf⟩
       case measure=>(have:=Cj.out;simp[intOf];omega)
      have HE:=hid (dh S ((show S=mZ 16777216 acc (p::p2::R.drop 3)by rw[HW.out,HDR.out,lF]).trans (qj 16777216 acc p p2 (R.drop 3) v hnp (fun h=>hxm (by rw[hx];unfold sat;omega)))))
      have hxi:¬(x:Int)≤255:=by omega
      have Qy:(255:Int)<(x:Int):=by omega
      have KN:(x:Int)≤4294967296:=by omega
      clear hnp hx lF hxm hx2
      generalize (x:Int)=X at hxi Qy KN HV
      generalize (acc:Int)=AC
      go_wp2_with fail
      refine(bf Y _ hys).mono ?_
      rw[kU.out,HV.out]
      rintro e w4 ⟨rfl,hw4⟩
      subst hw4
      go_wp2
      go_ret2
      exact⟨by rw[HE.out];rfl,HB.out⟩
    ·simp only[mk]at hacc HW
     obtain⟨p,hp⟩:∃p,p=R[2]'(by rw[←HN.out];exact hlt):=⟨_,rfl⟩
     obtain⟨Y,hY⟩:∃Y,Y=strOf p:=⟨_,rfl⟩
     have hcl:=(aeW.out 2 (by rw[List.length_map,List.length_map,←HN.out];exact hlt))
     rw[List.getElem_map,List.getElem_map,←hp,←hY]at hcl
     try rw[Nat.add_zero]at hcl
     have kU:Hid (Y.data.toList=p):=by show _=_;rw[hY];rfl
     have hys:Y.size≤1073741824:=by
      rw[hY,size_strOf]
      have:=Bf.out p (by rw[hp];exact List.getElem_mem _)
      omega
     have HDR:Hid (R.drop 2=p::R.drop 3):=drop_at R 2 p (by rw[←HN.out];exact hlt) hp.symm
     clear hp hY
     cases hnp:num p with
     |none=>
      have HV:=hid (yQ p hnp)
      have HE:=hid (dh S (by rw[HW.out,HDR.out];exact CW _ _ _ _ hnp))
      clear hnp
      go_wp2_with fail
      refine(bf Y _ hys).mono ?_
      rw[kU.out,HV.out]
      rintro e w4 ⟨rfl,hw4⟩
      subst hw4
      go_wp2
      go_ret2
      exact⟨by rw[HE.out];rfl,HB.out⟩
     | some v=>
      have HV:=hid (yR p v hnp)
      obtain⟨x,hx⟩:∃x,x=sat v:=⟨_,rfl⟩
      have hx2:x≤4294967296:=by rw[hx];unfold sat;omega
      rw[←hx]at HV
      by_cases hq:n=3
      ·have vC:R.drop 3=[]:=drop_end R _ (by rw[←HN.out];exact hq)
       have hA:((2:Int)==q)=true:=by have:=HQ.out;simp;omega
       have hB:¬(2:Int)<q:=by have:=HQ.out;omega
       have hC:4 - q=2:=by have:=HQ.out;omega
       have Cm:=hid hq
       clear hq
       by_cases hxm:x<65536
       ·have hxv:x=v:=by rw[hx];exact G9 v (by rw[←hx];omega)
        have HE:=hid ((show S=mZ 65536 acc [p]by rw[HW.out,HDR.out,vC]).trans (ng 65536 acc p v hnp ((D9 v 65536 (by omega)).2 (by rw[←hx];exact hxm))))
        have UE:=hid hxv
        have YM:=hid vC
        clear hnp hx hxv vC
        have eG:Hid ((acc:Int)+(x:Int)=((acc+v:Nat):Int)):=by show _=_;rw[UE.out];omega
        have hxi:(x:Int)<65536:=by omega
        have hx0:(0:Int)≤(x:Int):=by omega
        have hai:(acc:Int)+65536≤4294967296:=by omega
        have ha0:(0:Int)≤(acc:Int):=by omega
        have hvb:acc+v<4294967296:=by have:=UE.out;omega
        have Fh:=hid hvb
        clear hxm hx2 hacc hvb
        have Gf:Hid (S=mZ (mk 3) (acc+v) (R.drop 3)):=by show _=_;rw[YM.out];exact HE.out
        generalize (x:Int)=X at hxi hx0 eG HV
        generalize (acc:Int)=AC at hai ha0 eG⊢
        go_wp2_with fail
        refine(bf Y _ hys).mono ?_
        rw[kU.out,HV.out]
        rintro e w4 ⟨rfl,hw4⟩
        subst hw4
        go_wp2
        go_roundw
        case rel=>exact⟨3,acc+v,by have:=Cm.out;omega,by go_num,by first|rfl|trivial,by first|exact int_eq eG.out|(rw[←eG.out]),Fh.out,fun h=>absurd h (by have:=Cm.out;omega),Gf⟩
        case measure=>(have:=Cm.out;simp[intOf];omega)
       have HE:=hid (dh S ((show S=mZ 65536 acc [p]by rw[HW.out,HDR.out,vC]).trans (jV 65536 acc p v hnp (fun h=>hxm (by rw[hx];exact(D9 v 65536 (by omega)).1 h)))))
       have hxi:¬(x:Int)<65536:=by omega
       have hx0:(0:Int)≤(x:Int):=by omega
       have KN:(x:Int)≤4294967296:=by omega
       clear hnp hx vC hxm hx2
       generalize (x:Int)=X at hxi hx0 KN HV
       generalize (acc:Int)=AC
       go_wp2_with fail
       refine(bf Y _ hys).mono ?_
       rw[kU.out,HV.out]
       rintro e w4 ⟨rfl,hw4⟩
       subst hw4
       go_wp2
       go_ret2
       exact⟨by rw[HE.out];rfl,HB.out⟩
      have hA:((2:Int)==q)=false:=by have:=HQ.out;simp;omega
      have hB:(2:Int)<q:=by have:=HQ.out;omega
      have hlt2:3<n:=by omega
      obtain⟨p2,hp2⟩:∃p2,p2=R[3]'(by rw[←HN.out];exact hlt2):=⟨_,rfl⟩
      have lF:R.drop 3=p2::R.drop 4:=drop_at R 3 p2 (by rw[←HN.out];exact hlt2) hp2.symm
      have Cj:=hid hlt2
      clear hp2 hq hlt2
      by_cases hxm:x≤255
      ·have hxv:x=v:=by rw[hx];exact G9 v (by rw[←hx];omega)
       have HE:=hid ((show S=mZ 65536 acc (p::p2::R.drop 4)by rw[HW.out,HDR.out,lF]).trans (zK 65536 acc p p2 (R.drop 4) v hnp (by omega)))
       have OJ:=hid lF
       have UE:=hid hxv
       clear hnp hx hxv lF
       have eG:Hid ((acc:Int)+(x:Int)*256=((acc+v*256:Nat):Int)):=by show _=_;rw[UE.out];omega
       have hxi:(x:Int)≤255:=by omega
       have hx0:(0:Int)≤(x:Int):=by omega
       have hai:(acc:Int)+65536≤4294967296:=by omega
       have ha0:(0:Int)≤(acc:Int):=by omega
       have Fh:Hid (acc+v*256+256≤4294967296):=by have:=UE.out;show _≤_;omega
       have Gf:Hid (S=mZ (mk 3) (acc+v*256) (R.drop 3)):=by show _=_;rw[OJ.out];exact HE.out
       clear hxm hx2 hacc
       generalize (x:Int)=X at hxi hx0 eG HV
       generalize (acc:Int)=AC at hai ha0 eG⊢
       go_wp2_with fail
       refine(bf Y _ hys).mono ?_
       rw[kU.out,HV.out]
       rintro e w4 ⟨rfl,hw4⟩
       subst hw4
       go_wp2
       go_roundw
       case rel=>exact⟨3,acc+v*256,by have:=Cj.out;omega,by go_num,by first|rfl|trivial,by first|exact int_eq eG.out|(rw[←eG.out]),by have:=Fh.out;omega,fun _=>Fh.out,Gf⟩
       case measure=>(have:=Cj.out;simp[intOf];omega)
      have HE:=hid (dh S ((show S=mZ 65536 acc (p::p2::R.drop 4)by rw[HW.out,HDR.out,lF]).trans (qj 65536 acc p p2 (R.drop 4) v hnp (fun h=>hxm (by rw[hx];unfold sat;omega)))))
      have hxi:¬(x:Int)≤255:=by omega
      have Qy:(255:Int)<(x:Int):=by omega
      have KN:(x:Int)≤4294967296:=by omega
      clear hnp hx lF hxm hx2
      generalize (x:Int)=X at hxi Qy KN HV
      generalize (acc:Int)=AC
      go_wp2_with fail
      refine(bf Y _ hys).mono ?_
      rw[kU.out,HV.out]
      rintro e w4 ⟨rfl,hw4⟩
      subst hw4
      go_wp2
      go_ret2
      exact⟨by rw[HE.out];rfl,HB.out⟩
    simp only[mk]at hacc HW
    obtain⟨p,hp⟩:∃p,p=R[3]'(by rw[←HN.out];exact hlt):=⟨_,rfl⟩
    obtain⟨Y,hY⟩:∃Y,Y=strOf p:=⟨_,rfl⟩
    have hcl:=(aeW.out 3 (by rw[List.length_map,List.length_map,←HN.out];exact hlt))
    rw[List.getElem_map,List.getElem_map,←hp,←hY]at hcl
    try rw[Nat.add_zero]at hcl
    have kU:Hid (Y.data.toList=p):=by show _=_;rw[hY];rfl
    have hys:Y.size≤1073741824:=by
     rw[hY,size_strOf]
     have:=Bf.out p (by rw[hp];exact List.getElem_mem _)
     omega
    have HDR:Hid (R.drop 3=p::R.drop 4):=drop_at R 3 p (by rw[←HN.out];exact hlt) hp.symm
    clear hp hY
    cases hnp:num p with
    |none=>
     have HV:=hid (yQ p hnp)
     have HE:=hid (dh S (by rw[HW.out,HDR.out];exact CW _ _ _ _ hnp))
     clear hnp
     go_wp2_with fail
     refine(bf Y _ hys).mono ?_
     rw[kU.out,HV.out]
     rintro e w4 ⟨rfl,hw4⟩
     subst hw4
     go_wp2
     go_ret2
     exact⟨by rw[HE.out];rfl,HB.out⟩
    | some v=>
     have HV:=hid (yR p v hnp)
     obtain⟨x,hx⟩:∃x,x=sat v:=⟨_,rfl⟩
     have hx2:x≤4294967296:=by rw[hx];unfold sat;omega
     rw[←hx]at HV
     by_cases hq:n=4
     ·have vC:R.drop 4=[]:=drop_end R _ (by rw[←HN.out];exact hq)
      have hA:((3:Int)==q)=true:=by have:=HQ.out;simp;omega
      have hB:¬(3:Int)<q:=by have:=HQ.out;omega
      have hC:4 - q=1:=by have:=HQ.out;omega
      have Cm:=hid hq
      clear hq
      by_cases hxm:x<256
      ·have hxv:x=v:=by rw[hx];exact G9 v (by rw[←hx];omega)
       have HE:=hid ((show S=mZ 256 acc [p]by rw[HW.out,HDR.out,vC]).trans (ng 256 acc p v hnp ((D9 v 256 (by omega)).2 (by rw[←hx];exact hxm))))
       have UE:=hid hxv
       have YM:=hid vC
       clear hnp hx hxv vC
       have eG:Hid ((acc:Int)+(x:Int)=((acc+v:Nat):Int)):=by show _=_;rw[UE.out];omega
       have hxi:(x:Int)<256:=by omega
       have hx0:(0:Int)≤(x:Int):=by omega
       have hai:(acc:Int)+256≤4294967296:=by omega
       have ha0:(0:Int)≤(acc:Int):=by omega
       have hvb:acc+v<4294967296:=by have:=UE.out;omega
       have Fh:=hid hvb
       clear hxm hx2 hacc hvb
       have Gf:Hid (S=mZ (mk 4) (acc+v) (R.drop 4)):=by show _=_;rw[YM.out];exact HE.out
       generalize (x:Int)=X at hxi hx0 eG HV
       generalize (acc:Int)=AC at hai ha0 eG⊢
       go_wp2_with fail
       refine(bf Y _ hys).mono ?_
       rw[kU.out,HV.out]
       rintro e w4 ⟨rfl,hw4⟩
       subst hw4
       go_wp2
       go_roundw
       case rel=>exact⟨4,acc+v,by have:=Cm.out;omega,by go_num,by first|rfl|trivial,by first|exact int_eq eG.out|(rw[←eG.out]),Fh.out,fun h=>absurd h (by have:=Cm.out;omega),Gf⟩
       case measure=>(have:=Cm.out;simp[intOf];omega)
      have HE:=hid (dh S ((show S=mZ 256 acc [p]by rw[HW.out,HDR.out,vC]).trans (jV 256 acc p v hnp (fun h=>hxm (by rw[hx];exact(D9 v 256 (by omega)).1 h)))))
      have hxi:¬(x:Int)<256:=by omega
      have hx0:(0:Int)≤(x:Int):=by omega
      have KN:(x:Int)≤4294967296:=by omega
      clear hnp hx vC hxm hx2
      generalize (x:Int)=X at hxi hx0 KN HV
      generalize (acc:Int)=AC
      go_wp2_with fail
      refine(bf Y _ hys).mono ?_
      rw[kU.out,HV.out]
      rintro e w4 ⟨rfl,hw4⟩
      subst hw4
      go_wp2
      go_ret2
      exact⟨by rw[HE.out];rfl,HB.out⟩
     exact absurd hlt (by omega)
   obtain rfl:k=n:=by omega
   have HE:=hid (yX S acc (by rw[HW.out,drop_end R k HN.out.symm];rfl))
   have ha0:(0:Int)≤(acc:Int):=by omega
   have hai:(acc:Int)<4294967296:=by omega
   clear nG
   generalize (acc:Int)=AC at ha0 hai HE⊢
   go_wp2
   go_ret2
   exact⟨by rw[HE.out];rfl,HB.out⟩
 have h4i:(3:Int)<(n:Int) - 1:=by omega
 have HE:=hid (dh S (by rw[HS2.out,if_neg (by rw[←HN.out];exact h4)]))
 go_wp2
 go_ret2
 exact⟨by rw[HE.out];rfl,HB.out⟩
end Go.Proofs.YtmpeaoacaecgpaaGreatDoor.BH
namespace Go.Proofs.YtmpeaoacaecgpaaGreatDoor.QudF
open Go.RowKit Base Base2 dI oO Zx QudB acN acO BH
theorem Jq (s:ByteArray) (w:World) (hs:s.size≤900000):Calls Tryz.prog 319 #[.string s] w fun e w'=>e=.returned (oN (NR s.data.toList))∧Below w.heap.size w w':=by
 have hsl:s.data.toList.length=s.size:=Array.length_toList
 obtain⟨S,hS⟩:∃S,S=NR s.data.toList:=⟨_,rfl⟩
 obtain⟨R,hR⟩:∃R,R=prt (bZ s.data.toList):=⟨_,rfl⟩
 have hR2:R=bZ (oH s.data.toList):=by rw[hR,abd]
 have hS2:S=if R.length≤4 then mZ 4294967296 0 R else none:=by rw[hS,hR2];rfl
 have hul:(oH s.data.toList).length≤s.size:=by rw[←hsl];exact Fa _
 have Qi:0<R.length:=by rw[hR2];exact List.length_pos_iff.2 (qY _)
 have hrl:R.length≤900001:=by have:=rW (oH s.data.toList);rw[hR2];omega
 have Bf:Hid (∀p ∈ R,p.length≤900000):=by
  intro p hp
  rw[hR2]at hp
  have:=qK _ p hp
  omega
 have HR:=hid hR
 have HS2:=hid hS2
 rw[←hS]
 clear hS hS2 hR hR2 hul hsl
 go_enter Tryz.func319,Tryz.ntmps319
 go_wp2_with fail
 refine(Jt s _ hs).mono ?_
 rw[←HR.out]
 rintro e w3 ⟨A,n,c,rfl,hn,hnc,hcm,hrd,hb⟩
 rw[←hn]at Qi hrl
 have HRD0:=hid hrd
 have HB0:=hid hb
 have HN:=hid hn
 unfold maxLen at hcm
 clear hn hrd hb
 by_cases h4:n≤4
 ·have h4i:¬(4:Int)<(n:Int):=by omega
  have HW0:Hid (S=mZ 4294967296 0 (R.drop 0)):=by show _=_;rw[HS2.out,if_pos (by rw[←HN.out];exact h4),List.drop_zero]
  go_wp2
  generalize decide ((4:Int)<(n:Int))=dd
  go_loopw [5,6,7,8,16] (fun vm va _ _ vk wr=>∃(k acc:Nat),k≤n∧vk=.int .i64 (k:Int)∧(k<n→vm=.int .i64 (mk k:Int))∧va=.int .i64 (acc:Int)∧acc<4294967296∧Hid (Below w.heap.size w wr)∧Hid (aY wr A n ((R.map strOf).map Value.string))∧Hid (k<n→acc+mk k≤4294967296)∧Hid (S=mZ (mk k) acc (R.drop k))) (fun _ _ _ _ vk _=>n - (intOf vk).toNat)
  case atStart=>exact⟨0,0,Nat.zero_le _,rfl,fun _=>rfl,rfl,by omega,HB0,HRD0,fun _=>Nat.le_refl _,HW0⟩
  case round=>
   clear HW0 HB0 HRD0 h4i
   obtain⟨k,acc,hk,rfl,hmost,rfl,nG,HB,uq,HAC,HW⟩:=hrel
   by_cases hlt:k<n
   ·have hacc := HAC.out hlt
    have hk4:k=0∨k=1∨k=2∨k=3:=by omega
    obtain rfl:=hmost hlt
    clear HAC
    rcases hk4 with rfl|rfl|rfl|rfl
    ·simp only[mk]at hacc HW⊢
     obtain⟨p,hp⟩:∃p,p=R[0]'(by rw[←HN.out];exact hlt):=⟨_,rfl⟩
     obtain⟨Y,hY⟩:∃Y,Y=strOf p:=⟨_,rfl⟩
     obtain⟨g,off,rfl,hg,hcell⟩:=uq.out.spot Qi
     have hcl:=(hcell 0 (by rw[List.length_map,List.length_map,←HN.out];exact hlt))
     rw[List.getElem_map,List.getElem_map,←hp,←hY]at hcl
     try rw[Nat.add_zero]at hcl
     have kU:Hid (Y.data.toList=p):=by show _=_;rw[hY];rfl
     have hys:Y.size≤1073741824:=by
      rw[hY,size_strOf]
      have:=Bf.out p (by rw[hp];exact List.getElem_mem _)
      omega
     have HDR:Hid (R.drop 0=p::R.drop 1):=drop_at R 0 p (by rw[←HN.out];exact hlt) hp.symm
     have ha0:(0:Int)≤(acc:Int):=by omega
     clear hp hY hcell
     cases hnp:num p with
     |none=>
      have HV:=hid (yS p hnp)
      have HE:=hid (dh S (by rw[HW.out,HDR.out];exact CW _ _ _ _ hnp))
      clear hnp hacc nG
      generalize (acc:Int)=AC at ha0⊢
      go_wp2_with fail
      refine(bU Y _ hys).mono ?_
      rw[kU.out,HV.out]
      rintro e w4 ⟨rfl,hb4⟩
      have HB4:Hid (Below w.heap.size w w4):=bel HB.out hb4
      have tJ:=hid (uq.out.below hb4)
      clear hb4
      go_wp2
      go_ret2
      exact⟨by rw[HE.out];rfl,HB4.out⟩
     | some v=>
      obtain⟨x,hx,hx2,hxr⟩:=yT p v hnp
      have HV:=hid hx
      have hx0:(0:Int)≤(x:Int):=by omega
      have hx1:¬(x:Int)<0:=by omega
      have Dx:(x:Int)≤17592186044431:=by omega
      clear hx
      by_cases hq:n=1
      ·have vC:R.drop 1=[]:=drop_end R _ (by rw[←HN.out];exact hq)
       have hB:¬(0:Int)<(n:Int) - 1:=by omega
       have Cm:=hid hq
       clear hq
       by_cases hxm:x<4294967296
       ·have hxv:x=v:=by omega
        have HE:=hid ((show S=mZ 4294967296 acc [p]by rw[HW.out,HDR.out,vC]).trans (ng 4294967296 acc p v hnp (by omega)))
        have YM:=hid vC
        have eG:Hid ((acc:Int)+(x:Int)=((acc+v:Nat):Int)):=by show _=_;omega
        have hxi:(x:Int)<4294967296:=by omega
        have hai:(acc:Int)+4294967296≤4294967296:=by omega
        have hvb:acc+v<4294967296:=by omega
        have Fh:=hid hvb
        have Gf:Hid (S=mZ (mk 1) (acc+v) (R.drop 1)):=by show _=_;rw[YM.out];exact HE.out
        clear hnp hxv vC hxm hx2 hacc nG hvb hxr
        generalize (x:Int)=X at hxi hx0 hx1 Dx eG HV
        generalize (acc:Int)=AC at hai ha0 eG⊢
        go_wp2_with fail
        refine(bU Y _ hys).mono ?_
        rw[kU.out,HV.out]
        rintro e w4 ⟨rfl,hb4⟩
        have HB4:Hid (Below w.heap.size w w4):=bel HB.out hb4
        have tJ:=hid (uq.out.below hb4)
        clear hb4
        go_wp2
        go_roundw
        case rel=>exact⟨1,acc+v,by have:=Cm.out;omega,by go_num,fun h=>absurd h (by have:=Cm.out;omega),by first|exact int_eq eG.out|(rw[←eG.out]),Fh.out,HB4,tJ,fun h=>absurd h (by have:=Cm.out;omega),Gf⟩
        case measure=>(have:=Cm.out;simp[intOf];omega)
       have HE:=hid (dh S ((show S=mZ 4294967296 acc [p]by rw[HW.out,HDR.out,vC]).trans (jV 4294967296 acc p v hnp (by omega))))
       have hxi:4294967296≤(x:Int):=by omega
       clear hnp vC hxm hx2 hacc nG hxr
       generalize (x:Int)=X at hxi hx0 hx1 Dx HV
       generalize (acc:Int)=AC at ha0⊢
       go_wp2_with fail
       refine(bU Y _ hys).mono ?_
       rw[kU.out,HV.out]
       rintro e w4 ⟨rfl,hb4⟩
       have HB4:Hid (Below w.heap.size w w4):=bel HB.out hb4
       have tJ:=hid (uq.out.below hb4)
       clear hb4
       go_wp2
       go_ret2
       exact⟨by rw[HE.out];rfl,HB4.out⟩
      have hB:(0:Int)<(n:Int) - 1:=by omega
      have hlt2:1<n:=by omega
      obtain⟨p2,hp2⟩:∃p2,p2=R[1]'(by rw[←HN.out];exact hlt2):=⟨_,rfl⟩
      have lF:R.drop 1=p2::R.drop 2:=drop_at R 1 p2 (by rw[←HN.out];exact hlt2) hp2.symm
      have Cj:=hid hlt2
      clear hp2 hq hlt2
      by_cases hxm:x≤255
      ·have hxv:x=v:=by omega
       have HE:=hid ((show S=mZ 4294967296 acc (p::p2::R.drop 2)by rw[HW.out,HDR.out,lF]).trans (zK 4294967296 acc p p2 (R.drop 2) v hnp (by omega)))
       have OJ:=hid lF
       have eG:Hid ((acc:Int)+(x:Int)*16777216=((acc+v*16777216:Nat):Int)):=by show _=_;omega
       have hxi:(x:Int)≤255:=by omega
       have hai:(acc:Int)+4294967296≤4294967296:=by omega
       have Fh:Hid (acc+v*16777216+16777216≤4294967296):=by show _≤_;omega
       have Gf:Hid (S=mZ (mk 1) (acc+v*16777216) (R.drop 1)):=by show _=_;rw[OJ.out];exact HE.out
       clear hnp hxv lF hxm hx2 hacc nG hxr
       generalize (x:Int)=X at hxi hx0 hx1 Dx eG HV
       generalize (acc:Int)=AC at hai ha0 eG⊢
       go_wp2_with fail
       refine(bU Y _ hys).mono ?_
       rw[kU.out,HV.out]
       rintro e w4 ⟨rfl,hb4⟩
       have HB4:Hid (Below w.heap.size w w4):=bel HB.out hb4
       have tJ:=hid (uq.out.below hb4)
       clear hb4
       go_wp2
       go_roundw
       case rel=>exact⟨1,acc+v*16777216,by have:=Cj.out;omega,by go_num,fun _=>rfl,by first|exact int_eq eG.out|(rw[←eG.out]),by have:=Fh.out;omega,HB4,tJ,fun _=>Fh.out,Gf⟩
       case measure=>(have:=Cj.out;simp[intOf];omega)
      have HE:=hid (dh S ((show S=mZ 4294967296 acc (p::p2::R.drop 2)by rw[HW.out,HDR.out,lF]).trans (qj 4294967296 acc p p2 (R.drop 2) v hnp (by omega))))
      have Qy:(255:Int)<(x:Int):=by omega
      clear hnp lF hxm hx2 hacc nG hxr
      generalize (x:Int)=X at Qy hx0 hx1 Dx HV
      generalize (acc:Int)=AC at ha0⊢
      go_wp2_with fail
      refine(bU Y _ hys).mono ?_
      rw[kU.out,HV.out]
      rintro e w4 ⟨rfl,hb4⟩
      have HB4:Hid (Below w.heap.size w w4):=bel HB.out hb4
      have tJ:=hid (uq.out.below hb4)
      clear hb4
      go_wp2
      go_ret2
      exact⟨by rw[HE.out];rfl,HB4.out⟩
    ·simp only[mk]at hacc HW⊢
     obtain⟨p,hp⟩:∃p,p=R[1]'(by rw[←HN.out];exact hlt):=⟨_,rfl⟩
     obtain⟨Y,hY⟩:∃Y,Y=strOf p:=⟨_,rfl⟩
     obtain⟨g,off,rfl,hg,hcell⟩:=uq.out.spot Qi
     have hcl:=(hcell 1 (by rw[List.length_map,List.length_map,←HN.out];exact hlt))
     rw[List.getElem_map,List.getElem_map,←hp,←hY]at hcl
     try rw[Nat.add_zero]at hcl
     have kU:Hid (Y.data.toList=p):=by show _=_;rw[hY];rfl
     have hys:Y.size≤1073741824:=by
      rw[hY,size_strOf]
      have:=Bf.out p (by rw[hp];exact List.getElem_mem _)
      omega
     have HDR:Hid (R.drop 1=p::R.drop 2):=drop_at R 1 p (by rw[←HN.out];exact hlt) hp.symm
     have ha0:(0:Int)≤(acc:Int):=by omega
     clear hp hY hcell
     cases hnp:num p with
     |none=>
      have HV:=hid (yS p hnp)
      have HE:=hid (dh S (by rw[HW.out,HDR.out];exact CW _ _ _ _ hnp))
      clear hnp hacc nG
      generalize (acc:Int)=AC at ha0⊢
      go_wp2_with fail
      refine(bU Y _ hys).mono ?_
      rw[kU.out,HV.out]
      rintro e w4 ⟨rfl,hb4⟩
      have HB4:Hid (Below w.heap.size w w4):=bel HB.out hb4
      have tJ:=hid (uq.out.below hb4)
      clear hb4
      go_wp2
      go_ret2
      exact⟨by rw[HE.out];rfl,HB4.out⟩
     | some v=>
      obtain⟨x,hx,hx2,hxr⟩:=yT p v hnp
      have HV:=hid hx
      have hx0:(0:Int)≤(x:Int):=by omega
      have hx1:¬(x:Int)<0:=by omega
      have Dx:(x:Int)≤17592186044431:=by omega
      clear hx
      by_cases hq:n=2
      ·have vC:R.drop 2=[]:=drop_end R _ (by rw[←HN.out];exact hq)
       have hB:¬(1:Int)<(n:Int) - 1:=by omega
       have Cm:=hid hq
       clear hq
       by_cases hxm:x<16777216
       ·have hxv:x=v:=by omega
        have HE:=hid ((show S=mZ 16777216 acc [p]by rw[HW.out,HDR.out,vC]).trans (ng 16777216 acc p v hnp (by omega)))
        have YM:=hid vC
        have eG:Hid ((acc:Int)+(x:Int)=((acc+v:Nat):Int)):=by show _=_;omega
        have hxi:(x:Int)<16777216:=by omega
        have hai:(acc:Int)+16777216≤4294967296:=by omega
        have hvb:acc+v<4294967296:=by omega
        have Fh:=hid hvb
        have Gf:Hid (S=mZ (mk 2) (acc+v) (R.drop 2)):=by show _=_;rw[YM.out];exact HE.out
        clear hnp hxv vC hxm hx2 hacc nG hvb hxr
        generalize (x:Int)=X at hxi hx0 hx1 Dx eG HV
        generalize (acc:Int)=AC at hai ha0 eG⊢
        go_wp2_with fail
        refine(bU Y _ hys).mono ?_
        rw[kU.out,HV.out]
        rintro e w4 ⟨rfl,hb4⟩
        have HB4:Hid (Below w.heap.size w w4):=bel HB.out hb4
        have tJ:=hid (uq.out.below hb4)
        clear hb4
        go_wp2
        go_roundw
        case rel=>exact⟨2,acc+v,by have:=Cm.out;omega,by go_num,fun h=>absurd h (by have:=Cm.out;omega),by first|exact int_eq eG.out|(rw[←eG.out]),Fh.out,HB4,tJ,fun h=>absurd h (by have:=Cm.out;omega),Gf⟩
        case measure=>(have:=Cm.out;simp[intOf];omega)
       have HE:=hid (dh S ((show S=mZ 16777216 acc [p]by rw[HW.out,HDR.out,vC]).trans (jV 16777216 acc p v hnp (by omega))))
       have hxi:16777216≤(x:Int):=by omega
       clear hnp vC hxm hx2 hacc nG hxr
       generalize (x:Int)=X at hxi hx0 hx1 Dx HV
       generalize (acc:Int)=AC at ha0⊢
       go_wp2_with fail
       refine(bU Y _ hys).mono ?_
       rw[kU.out,HV.out]
       rintro e w4 ⟨rfl,hb4⟩
       have HB4:Hid (Below w.heap.size w w4):=bel HB.out hb4
       have tJ:=hid (uq.out.below hb4)
       clear hb4
       go_wp2
       go_ret2
       exact⟨by rw[HE.out];rfl,HB4.out⟩
      have hB:(1:Int)<(n:Int) - 1:=by omega
      have hlt2:2<n:=by omega
      obtain⟨p2,hp2⟩:∃p2,p2=R[2]'(by rw[←HN.out];exact hlt2):=⟨_,rfl⟩
      have lF:R.drop 2=p2::R.drop 3:=drop_at R 2 p2 (by rw[←HN.out];exact hlt2) hp2.symm
      have Cj:=hid hlt2
      clear hp2 hq hlt2
      by_cases hxm:x≤255
      ·have hxv:x=v:=by omega
       have HE:=hid ((show S=mZ 16777216 acc (p::p2::R.drop 3)by rw[HW.out,HDR.out,lF]).trans (zK 16777216 acc p p2 (R.drop 3) v hnp (by omega)))
       have OJ:=hid lF
       have eG:Hid ((acc:Int)+(x:Int)*65536=((acc+v*65536:Nat):Int)):=by show _=_;omega
       have hxi:(x:Int)≤255:=by omega
       have hai:(acc:Int)+16777216≤4294967296:=by omega
       have Fh:Hid (acc+v*65536+65536≤4294967296):=by show _≤_;omega
       have Gf:Hid (S=mZ (mk 2) (acc+v*65536) (R.drop 2)):=by show _=_;rw[OJ.out];exact HE.out
       clear hnp hxv lF hxm hx2 hacc nG hxr
       generalize (x:Int)=X at hxi hx0 hx1 Dx eG HV
       generalize (acc:Int)=AC at hai ha0 eG⊢
       go_wp2_with fail
       refine(bU Y _ hys).mono ?_
       rw[kU.out,HV.out]
       rintro e w4 ⟨rfl,hb4⟩
       have HB4:Hid (Below w.heap.size w w4):=bel HB.out hb4
       have tJ:=hid (uq.out.below hb4)
       clear hb4
       go_wp2
       go_roundw
       case rel=>exact⟨2,acc+v*65536,by have:=Cj.out;omega,by go_num,fun _=>rfl,by first|exact int_eq eG.out|(rw[←eG.out]),by have:=Fh.out;omega,HB4,tJ,fun _=>Fh.out,Gf⟩
       case measure=>(have:=Cj.out;simp[intOf];omega)
      have HE:=hid (dh S ((show S=mZ 16777216 acc (p::p2::R.drop 3)by rw[HW.out,HDR.out,lF]).trans (qj 16777216 acc p p2 (R.drop 3) v hnp (by omega))))
      have Qy:(255:Int)<(x:Int):=by omega
      clear hnp lF hxm hx2 hacc nG hxr
      generalize (x:Int)=X at Qy hx0 hx1 Dx HV
      generalize (acc:Int)=AC at ha0⊢
      go_wp2_with fail
      refine(bU Y _ hys).mono ?_
      rw[kU.out,HV.out]
      rintro e w4 ⟨rfl,hb4⟩
      have HB4:Hid (Below w.heap.size w w4):=bel HB.out hb4
      have tJ:=hid (uq.out.below hb4)
      clear hb4
      go_wp2
      go_ret2
      exact⟨by rw[HE.out];rfl,HB4.out⟩
    ·simp only[mk]at hacc HW⊢
     obtain⟨p,hp⟩:∃p,p=R[2]'(by rw[←HN.out];exact hlt):=⟨_,rfl⟩
     obtain⟨Y,hY⟩:∃Y,Y=strOf p:=⟨_,rfl⟩
     obtain⟨g,off,rfl,hg,hcell⟩:=uq.out.spot Qi
     have hcl:=(hcell 2 (by rw[List.length_map,List.length_map,←HN.out];exact hlt))
     rw[List.getElem_map,List.getElem_map,←hp,←hY]at hcl
     try rw[Nat.add_zero]at hcl
     have kU:Hid (Y.data.toList=p):=by show _=_;rw[hY];rfl
     have hys:Y.size≤1073741824:=by
      rw[hY,size_strOf]
      have:=Bf.out p (by rw[hp];exact List.getElem_mem _)
      omega
     have HDR:Hid (R.drop 2=p::R.drop 3):=drop_at R 2 p (by rw[←HN.out];exact hlt) hp.symm
     have ha0:(0:Int)≤(acc:Int):=by omega
     clear hp hY hcell
     cases hnp:num p with
     |none=>
      have HV:=hid (yS p hnp)
      have HE:=hid (dh S (by rw[HW.out,HDR.out];exact CW _ _ _ _ hnp))
      clear hnp hacc nG
      generalize (acc:Int)=AC at ha0⊢
      go_wp2_with fail
      refine(bU Y _ hys).mono ?_
      rw[kU.out,HV.out]
      rintro e w4 ⟨rfl,hb4⟩
      have HB4:Hid (Below w.heap.size w w4):=bel HB.out hb4
      have tJ:=hid (uq.out.below hb4)
      clear hb4
      go_wp2
      go_ret2
      exact⟨by rw[HE.out];rfl,HB4.out⟩
     | some v=>
      obtain⟨x,hx,hx2,hxr⟩:=yT p v hnp
      have HV:=hid hx
      have hx0:(0:Int)≤(x:Int):=by omega
      have hx1:¬(x:Int)<0:=by omega
      have Dx:(x:Int)≤17592186044431:=by omega
      clear hx
      by_cases hq:n=3
      ·have vC:R.drop 3=[]:=drop_end R _ (by rw[←HN.out];exact hq)
       have hB:¬(2:Int)<(n:Int) - 1:=by omega
       have Cm:=hid hq
       clear hq
       by_cases hxm:x<65536
       ·have hxv:x=v:=by omega
        have HE:=hid ((show S=mZ 65536 acc [p]by rw[HW.out,HDR.out,vC]).trans (ng 65536 acc p v hnp (by omega)))
        have YM:=hid vC
        have eG:Hid ((acc:Int)+(x:Int)=((acc+v:Nat):Int)):=by show _=_;omega
        have hxi:(x:Int)<65536:=by omega
        have hai:(acc:Int)+65536≤4294967296:=by omega
        have hvb:acc+v<4294967296:=by omega
        have Fh:=hid hvb
        have Gf:Hid (S=mZ (mk 3) (acc+v) (R.drop 3)):=by show _=_;rw[YM.out];exact HE.out
        clear hnp hxv vC hxm hx2 hacc nG hvb hxr
        generalize (x:Int)=X at hxi hx0 hx1 Dx eG HV
        generalize (acc:Int)=AC at hai ha0 eG⊢
        go_wp2_with fail
        refine(bU Y _ hys).mono ?_
        rw[kU.out,HV.out]
        rintro e w4 ⟨rfl,hb4⟩
        have HB4:Hid (Below w.heap.size w w4):=bel HB.out hb4
        have tJ:=hid (uq.out.below hb4)
        clear hb4
        go_wp2
        go_roundw
        case rel=>exact⟨3,acc+v,by have:=Cm.out;omega,by go_num,fun h=>absurd h (by have:=Cm.out;omega),by first|exact int_eq eG.out|(rw[←eG.out]),Fh.out,HB4,tJ,fun h=>absurd h (by have:=Cm.out;omega),Gf⟩
        case measure=>(have:=Cm.out;simp[intOf];omega)
       have HE:=hid (dh S ((show S=mZ 65536 acc [p]by rw[HW.out,HDR.out,vC]).trans (jV 65536 acc p v hnp (by omega))))
       have hxi:65536≤(x:Int):=by omega
       clear hnp vC hxm hx2 hacc nG hxr
       generalize (x:Int)=X at hxi hx0 hx1 Dx HV
       generalize (acc:Int)=AC at ha0⊢
       go_wp2_with fail
       refine(bU Y _ hys).mono ?_
       rw[kU.out,HV.out]
       rintro e w4 ⟨rfl,hb4⟩
       have HB4:Hid (Below w.heap.size w w4):=bel HB.out hb4
       have tJ:=hid (uq.out.below hb4)
       clear hb4
       go_wp2
       go_ret2
       exact⟨by rw[HE.out];rfl,HB4.out⟩
      have hB:(2:Int)<(n:Int) - 1:=by omega
      have hlt2:3<n:=by omega
      obtain⟨p2,hp2⟩:∃p2,p2=R[3]'(by rw[←HN.out];exact hlt2):=⟨_,rfl⟩
      have lF:R.drop 3=p2::R.drop 4:=drop_at R 3 p2 (by rw[←HN.out];exact hlt2) hp2.symm
      have Cj:=hid hlt2
      clear hp2 hq hlt2
      by_cases hxm:x≤255
      ·have hxv:x=v:=by omega
       have HE:=hid ((show S=mZ 65536 acc (p::p2::R.drop 4)by rw[HW.out,HDR.out,lF]).trans (zK 65536 acc p p2 (R.drop 4) v hnp (by omega)))
       have OJ:=hid lF
       have eG:Hid ((acc:Int)+(x:Int)*256=((acc+v*256:Nat):Int)):=by show _=_;omega
       have hxi:(x:Int)≤255:=by omega
       have hai:(acc:Int)+65536≤4294967296:=by omega
       have Fh:Hid (acc+v*256+256≤4294967296):=by show _≤_;omega
       have Gf:Hid (S=mZ (mk 3) (acc+v*256) (R.drop 3)):=by show _=_;rw[OJ.out];exact HE.out
       clear hnp hxv lF hxm hx2 hacc nG hxr
       generalize (x:Int)=X at hxi hx0 hx1 Dx eG HV
       generalize (acc:Int)=AC at hai ha0 eG⊢
       go_wp2_with fail
       refine(bU Y _ hys).mono ?_
       rw[kU.out,HV.out]
       rintro e w4 ⟨rfl,hb4⟩
       have HB4:Hid (Below w.heap.size w w4):=bel HB.out hb4
       have tJ:=hid (uq.out.below hb4)
       clear hb4
       go_wp2
       go_roundw
       case rel=>exact⟨3,acc+v*256,by have:=Cj.out;omega,by go_num,fun _=>rfl,by first|exact int_eq eG.out|(rw[←eG.out]),by have:=Fh.out;omega,HB4,tJ,fun _=>Fh.out,Gf⟩
       case measure=>(have:=Cj.out;simp[intOf];omega)
      have HE:=hid (dh S ((show S=mZ 65536 acc (p::p2::R.drop 4)by rw[HW.out,HDR.out,lF]).trans (qj 65536 acc p p2 (R.drop 4) v hnp (by omega))))
      have Qy:(255:Int)<(x:Int):=by omega
      clear hnp lF hxm hx2 hacc nG hxr
      generalize (x:Int)=X at Qy hx0 hx1 Dx HV
      generalize (acc:Int)=AC at ha0⊢
      go_wp2_with fail
      refine(bU Y _ hys).mono ?_
      rw[kU.out,HV.out]
      rintro e w4 ⟨rfl,hb4⟩
      have HB4:Hid (Below w.heap.size w w4):=bel HB.out hb4
      have tJ:=hid (uq.out.below hb4)
      clear hb4
      go_wp2
      go_ret2
      exact⟨by rw[HE.out];rfl,HB4.out⟩
    simp only[mk]at hacc HW⊢
    obtain⟨p,hp⟩:∃p,p=R[3]'(by rw[←HN.out];exact hlt):=⟨_,rfl⟩
    obtain⟨Y,hY⟩:∃Y,Y=strOf p:=⟨_,rfl⟩
    obtain⟨g,off,rfl,hg,hcell⟩:=uq.out.spot Qi
    have hcl:=(hcell 3 (by rw[List.length_map,List.length_map,←HN.out];exact hlt))
    rw[List.getElem_map,List.getElem_map,←hp,←hY]at hcl
    try rw[Nat.add_zero]at hcl
    have kU:Hid (Y.data.toList=p):=by show _=_;rw[hY];rfl
    have hys:Y.size≤1073741824:=by
     rw[hY,size_strOf]
     have:=Bf.out p (by rw[hp];exact List.getElem_mem _)
     omega
    have HDR:Hid (R.drop 3=p::R.drop 4):=drop_at R 3 p (by rw[←HN.out];exact hlt) hp.symm
    have ha0:(0:Int)≤(acc:Int):=by omega
    clear hp hY hcell
    cases hnp:num p with
    |none=>
     have HV:=hid (yS p hnp)
     have HE:=hid (dh S (by rw[HW.out,HDR.out];exact CW _ _ _ _ hnp))
     clear hnp hacc nG
     generalize (acc:Int)=AC at ha0⊢
     go_wp2_with fail
     refine(bU Y _ hys).mono ?_
     rw[kU.out,HV.out]
     rintro e w4 ⟨rfl,hb4⟩
     have HB4:Hid (Below w.heap.size w w4):=bel HB.out hb4
     have tJ:=hid (uq.out.below hb4)
     clear hb4
     go_wp2
     go_ret2
     exact⟨by rw[HE.out];rfl,HB4.out⟩
    | some v=>
     obtain⟨x,hx,hx2,hxr⟩:=yT p v hnp
     have HV:=hid hx
     have hx0:(0:Int)≤(x:Int):=by omega
     have hx1:¬(x:Int)<0:=by omega
     have Dx:(x:Int)≤17592186044431:=by omega
     clear hx
     by_cases hq:n=4
     ·have vC:R.drop 4=[]:=drop_end R _ (by rw[←HN.out];exact hq)
      have hB:¬(3:Int)<(n:Int) - 1:=by omega
      have Cm:=hid hq
      clear hq
      by_cases hxm:x<256
      ·have hxv:x=v:=by omega
       have HE:=hid ((show S=mZ 256 acc [p]by rw[HW.out,HDR.out,vC]).trans (ng 256 acc p v hnp (by omega)))
       have YM:=hid vC
       have eG:Hid ((acc:Int)+(x:Int)=((acc+v:Nat):Int)):=by show _=_;omega
       have hxi:(x:Int)<256:=by omega
       have hai:(acc:Int)+256≤4294967296:=by omega
       have hvb:acc+v<4294967296:=by omega
       have Fh:=hid hvb
       have Gf:Hid (S=mZ (mk 4) (acc+v) (R.drop 4)):=by show _=_;rw[YM.out];exact HE.out
       clear hnp hxv vC hxm hx2 hacc nG hvb hxr
       generalize (x:Int)=X at hxi hx0 hx1 Dx eG HV
       generalize (acc:Int)=AC at hai ha0 eG⊢
       go_wp2_with fail
       refine(bU Y _ hys).mono ?_
       rw[kU.out,HV.out]
       rintro e w4 ⟨rfl,hb4⟩
       have HB4:Hid (Below w.heap.size w w4):=bel HB.out hb4
       have tJ:=hid (uq.out.below hb4)
       clear hb4
       go_wp2
       go_roundw
       case rel=>exact⟨4,acc+v,by have:=Cm.out;omega,by go_num,fun h=>absurd h (by have:=Cm.out;omega),by first|exact int_eq eG.out|(rw[←eG.out]),Fh.out,HB4,tJ,fun h=>absurd h (by have:=Cm.out;omega),Gf⟩
       case measure=>(have:=Cm.out;simp[intOf];omega)
      have HE:=hid (dh S ((show S=mZ 256 acc [p]by rw[HW.out,HDR.out,vC]).trans (jV 256 acc p v hnp (by omega))))
      have hxi:256≤(x:Int):=by omega
      clear hnp vC hxm hx2 hacc nG hxr
      generalize (x:Int)=X at hxi hx0 hx1 Dx HV
      generalize (acc:Int)=AC at ha0⊢
      go_wp2_with fail
      refine(bU Y _ hys).mono ?_
      rw[kU.out,HV.out]
      rintro e w4 ⟨rfl,hb4⟩
      have HB4:Hid (Below w.heap.size w w4):=bel HB.out hb4
      have tJ:=hid (uq.out.below hb4)
      clear hb4
      go_wp2
      go_ret2
      exact⟨by rw[HE.out];rfl,HB4.out⟩
     exact absurd hlt (by omega)
   obtain rfl:k=n:=by omega
   have HE:=hid (yX S acc (by rw[HW.out,drop_end R k HN.out.symm];rfl))
   have ha0:(0:Int)≤(acc:Int):=by omega
   have hai:(acc:Int)<4294967296:=by omega
   clear nG hmost
   generalize (acc:Int)=AC at ha0 hai HE⊢
   go_wp2
   go_ret2
   exact⟨by rw[HE.out];rfl,HB.out⟩
 have h4i:(4:Int)<(n:Int):=by omega
 have HE:=hid (dh S (by rw[HS2.out,if_neg (by rw[←HN.out];exact h4)]))
 go_wp2
 go_ret2
 exact⟨by rw[HE.out];rfl,HB0.out⟩
end Go.Proofs.YtmpeaoacaecgpaaGreatDoor.QudF
namespace Go.Proofs.YtmpeaoacaecgpaaGreatDoor.Tab
open Go.RowKit Base
def Pow (w:World):Prop:=Lib.TabIs Tryz.prog w "internal/strconv.uint64pow10" .u64 Lib.pow10Tab
theorem G6:Tryz.prog.globalNamed "internal/strconv.uint64pow10" =some 3:=by kernel_rfl
theorem pow_of {W:World} {l:List (String×DataW Unit)} (h:laidMet Tryz.prog l W) (hm:("internal/strconv.uint64pow10",Lib.tabData .u64 Lib.pow10Tab) ∈ l):Pow W:=by
 obtain⟨g',t',cs,fuel,p,hg',ht',hvar,hd⟩:=Lib.laidMet.reads h hm
 obtain rfl:=Option.some.inj (G6.symm.trans hg')
 obtain rfl:=Option.some.inj ((show(Tryz.prog.globals[3]?).map (·.type)=some 327 by kernel_rfl).symm.trans ht')
 show World.var? _ _ _=_
 rw[hvar,←Lib.cells_of_tab (k:=.u64) (zs:=Lib.pow10Tab) Tryz.underlying327 Tryz.underlying212 (by kernel_rfl) (by kernel_rfl) hd]
theorem Pow.below {w w':World} (h:Pow w) (hb:Below w.heap.size w w'):Pow w':=Joins.tab_stays G6 h hb (Nat.le_refl _)
theorem below_grow (w:World) (k:Nat) (os:Array Obj):Below w.heap.size w (Sort.grow (w.drewN k) os):=
 ⟨rfl,rfl,rfl,by rw[Sort.size_grow];exact Nat.le_add_right _ _,fun g hg=>by
  show(w.heap++os)[g]?=w.heap[g]?
  rw[Array.getElem?_append_left hg]⟩
theorem ami (n:Nat):Lib.itoa (n:Int)=Lib.decDigits n:=by unfold Lib.itoa;rw[if_neg (by omega)];simp
theorem I4 (n:Nat) (hn:n≤9223372036854775807) (w:World) (hT:Pow w):
  Calls Tryz.prog 159 #[.int .i64 (n:Int)] w fun e w'=>e=.returned (.string (strOf (Lib.decDigits n)))∧Below w.heap.size w w':=
 (Tryz.strconv_Itoa (n:Int) (by omega) (by omega) w hT).mono fun e w' ⟨he,k,os,hw⟩=>⟨by rw[he,ami];rfl,by rw[hw];exact below_grow w k os⟩
end Go.Proofs.YtmpeaoacaecgpaaGreatDoor.Tab
namespace Go.Proofs.YtmpeaoacaecgpaaGreatDoor.Gl
open Go.RowKit Base Base2 dI oO Zx acN BH
theorem uX (k:Nat):∀n,n<10^(k+1)→(Lib.decDigits n).length≤k+1:=by
 induction k with
 |zero=>intro n h;rw[Lib.decDigits,dif_pos (by omega)];simp
 |succ k ih=>
  intro n h
  rw[Lib.decDigits]
  split
  ·simp
  have:=ih (n / 10) (by rw[Nat.pow_succ]at h;omega)
  rw[List.length_append]
  simp
  omega
theorem u8_dig (n:Nat):((UInt8.ofNat (48+n%10)).toNat:Int)=48+(n:Int)%10:=by simp;omega
theorem one_row (c:UInt8) (w:World):aY (w.alloc (.cells #[.int .u8 (c.toNat:Int)] 5)) (some ⟨w.heap.size,0,none⟩) 1 (ah [c]):=qF w [c] 5 (0,0)
theorem ku (n:Nat) (h:n≤18446744073709551615):(Lib.decDigits n).length≤20:=uX 19 n (by omega)
theorem rJ:∀(N n:Nat),n<N→n≤18446744073709551615→∀w:World,Calls Tryz.prog 214 #[.int .u64 (n:Int)] w fun e w'=>e=.returned (.string (strOf (Lib.decDigits n)))∧Below w.heap.size w w'
 |0,n,h,_,w=>absurd h (by omega)
 |N+1,n,hN,hn,w=>by
  obtain⟨c,hc⟩:∃c:UInt8,c=UInt8.ofNat (48+n%10):=⟨_,rfl⟩
  have hcn:(c.toNat:Int)=48+(n:Int)%10:=by rw[hc];exact u8_dig n
  have q1:(n:Int).tmod 10=(n:Int)%10:=Int.tmod_eq_emod_of_nonneg (by omega)
  have q2:IntKind.u8.wrap ((n:Int)%10)=(n:Int)%10:=by rw[IntKind.wrap_u8];omega
  have q3:IntKind.u8.wrap (48+(n:Int)%10)=(c.toNat:Int):=by rw[IntKind.wrap_u8,hcn];omega
  have q4:48+(n:Int)%10=(c.toNat:Int):=hcn.symm
  have hst:=fun w:World=>aF (P:=Tryz.prog) (w:=w.alloc (.cells #[.int .u8 (c.toNat:Int)] 5)) 45 9 5 Tryz.underlying45 Tryz.underlying5 Tryz.underlying9 [c] 1 (one_row c w)
  by_cases h9:n<10
  ·have HD:Hid (Lib.decDigits n=[c]):=by rw[Lib.decDigits,dif_pos h9,hc,Nat.mod_eq_of_lt h9];rfl
   have h9':(n:Int)≤9:=by omega
   clear hc hcn
   go_enter Tryz.func214,Tryz.ntmps214
   go_wp2
   go_ret
   exact⟨by rw[HD.out];rfl,(Below.refl _ _).alloc (Nat.le_refl _) _⟩
  ·have h9':9<(n:Int):=by omega
   obtain⟨m,hm⟩:∃m,m=n / 10:=⟨_,rfl⟩
   have HD:Hid (Lib.decDigits n=Lib.decDigits m++[c]):=by rw[Lib.decDigits,dif_neg h9,hc,hm];rfl
   have q5:(n:Int) / 10=(m:Int):=by omega
   have q6:(n:Int).tdiv 10=(m:Int):=by rw[Int.tdiv_eq_ediv_of_nonneg (by omega)];exact q5
   have hml:=ku m (by omega)
   have HML:=hid hml
   have ih:=rJ N m (by omega) (by omega)
   have HIH:=hid ih
   have a1:∀w:World,(Op.stringOp .add (strOf (Lib.decDigits m)) (strOf [c])).run Tryz.prog w=.ok (.string (strOf (Lib.decDigits m++[c]))) w:=fun w=>str_add _ _ w (by have:=HML.out;simp;omega)
   clear hc hcn hm hml ih
   go_enter Tryz.func214,Tryz.ntmps214
   go_wp2_with fail
   refine(HIH.out _).mono ?_
   rintro e w2 ⟨rfl,hb2⟩
   go_wp2
   go_ret
   exact⟨by rw[HD.out];rfl,bel ((Below.refl _ _).alloc (Nat.le_refl _) _) hb2⟩
def p1 (n:Nat):List UInt8:=Lib.decDigits (n / 16777216)++[46]
def p2 (n:Nat):List UInt8:=p1 n++Lib.decDigits (n / 65536%256)++[46]
def p3 (n:Nat):List UInt8:=p2 n++Lib.decDigits (n / 256%256)++[46]
def pr (n:Nat):List UInt8:=p3 n++Lib.decDigits (n%256)
theorem I5 (n:Nat) (h:n<256):(Lib.decDigits n).length≤3:=uX 2 n (by omega)
theorem ad5 (n:Nat) (h:n<4294967296):(p1 n).length≤4:=by have:=I5 (n / 16777216) (by omega);simp[p1];omega
theorem ad6 (n:Nat) (h:n<4294967296):(p2 n).length≤8:=by have:=I5 (n / 65536%256) (by omega);have:=ad5 n h;simp[p2];omega
theorem ad7 (n:Nat) (h:n<4294967296):(p3 n).length≤12:=by have:=I5 (n / 256%256) (by omega);have:=ad6 n h;simp[p3];omega
theorem Xe (a:Nat) (h:a<4294967296):bits .and .u32 (a:Int) 255=((a%256:Nat):Int):=by
 have:=u32_and_nat a 255 h (by omega)
 rw[show((255:Nat):Int)=255 from rfl]at this
 rw[this]
 congr 1
 exact Nat.and_two_pow_sub_one_eq_mod a 8
def pj (n:Nat):Nat→List UInt8
 |0=>[]
 |1=>p1 n
 |2=>p2 n
 |3=>p3 n
 |_=>pr n
theorem print_any (n:Nat) (hn:n<4294967296) (w:World) (hT:Tab.Pow w):Calls Tryz.prog 327 #[.int .u32 (n:Int)] w fun e w'=>e=.returned (.string (strOf (pr n)))∧Below w.heap.size w w':=by
 have HT:=hid hT
 have hni:(n:Int)<4294967296:=by omega
 have hn0:0≤(n:Int):=by omega
 have vW:Hid ((p1 n).length≤4∧(p2 n).length≤8∧(p3 n).length≤12):=⟨ad5 n hn,ad6 n hn,ad7 n hn⟩
 clear hT
 go_enter Tryz.func327,Tryz.ntmps327
 go_wp2
 go_loopw [3,4] (fun vo vs wr=>∃j:Nat,j≤4∧vo=.string (strOf (pj n j))∧vs=.int .i64 (24 - 8*(j:Int))∧Hid (Below w.heap.size w wr)) (fun _ vs _=>(intOf vs+8).toNat)
 case atStart=>exact⟨0,by omega,rfl,rfl,Below.refl _ _⟩
 case round=>
  obtain⟨j,hj,rfl,rfl,HB⟩:=hrel
  have hj5:j=0∨j=1∨j=2∨j=3∨j=4:=by omega
  rcases hj5 with rfl|rfl|rfl|rfl|rfl
  ·obtain⟨b,hb⟩:∃b,b=n / 16777216:=⟨_,rfl⟩
   have hb256:b<256:=by omega
   obtain⟨a,ha⟩:∃a,a=n / 16777216:=⟨_,rfl⟩
   have hal:a<4294967296:=by omega
   have hsh:(n:Int) / 16777216=(a:Int):=by omega
   have hand:bits .and .u32 (a:Int) 255=(b:Int):=by rw[Xe a hal];omega
   have hbl:=I5 b hb256
   have HBL:=hid hbl
   have Bd:=hid hb
   have hai:(a:Int)<4294967296:=by omega
   have hbi:(b:Int)<256:=by omega
   have a1:∀w:World,(Op.stringOp .add (strOf (pj n 0)) (strOf (Lib.decDigits b))).run Tryz.prog w=.ok (.string (strOf (pj n 0++Lib.decDigits b))) w:=fun w=>str_add _ _ w (by have h1:=vW.out;have h2:=HBL.out;simp only[pj]at h1⊢;simp;omega)
   have a2:∀w:World,(Op.stringOp .add (strOf (pj n 0++Lib.decDigits b)) ⟨#[46]⟩).run Tryz.prog w=.ok (.string (strOf (pj n 1))) w:=fun w=>by
    have e:pj n 1=pj n 0++Lib.decDigits b++[46]:=by rw[Bd.out];rfl
    rw[e]
    exact str_add _ [46] w (by have h1:=vW.out;have h2:=HBL.out;simp only[pj]at h1⊢;simp;omega)
   clear hb ha hal hbl
   generalize hX:strOf (pj n 0)=X at a1⊢
   generalize hY:strOf (Lib.decDigits b)=Y at a1
   generalize hZ:strOf (pj n 0++Lib.decDigits b)=Z at a1 a2
   generalize hV:strOf (pj n 1)=V at a2
   have kU:=hid hY
   have HXX:=hid hX
   have HZZ:=hid hZ
   have HVV:=hid hV
   clear hV
   clear hX hY hZ
   go_wp2_with fail
   refine(Tab.I4 b (by omega) _ (HT.out.below HB.out)).mono ?_
   rw[kU.out]
   rintro e w2 ⟨rfl,hb2⟩
   have HB2:Hid (Below w.heap.size w w2):=bel HB.out hb2
   clear hb2
   go_wp2
   go_roundw
   case rel=>exact⟨1,by omega,by rw[HVV.out],rfl,HB2⟩
   case measure=>simp[intOf]
  ·obtain⟨b,hb⟩:∃b,b=n / 65536%256:=⟨_,rfl⟩
   have hb256:b<256:=by omega
   obtain⟨a,ha⟩:∃a,a=n / 65536:=⟨_,rfl⟩
   have hal:a<4294967296:=by omega
   have hsh:(n:Int) / 65536=(a:Int):=by omega
   have hand:bits .and .u32 (a:Int) 255=(b:Int):=by rw[Xe a hal];omega
   have hbl:=I5 b hb256
   have HBL:=hid hbl
   have Bd:=hid hb
   have hai:(a:Int)<4294967296:=by omega
   have hbi:(b:Int)<256:=by omega
   have a1:∀w:World,(Op.stringOp .add (strOf (pj n 1)) (strOf (Lib.decDigits b))).run Tryz.prog w=.ok (.string (strOf (pj n 1++Lib.decDigits b))) w:=fun w=>str_add _ _ w (by have h1:=vW.out;have h2:=HBL.out;simp only[pj]at h1⊢;simp;omega)
   have a2:∀w:World,(Op.stringOp .add (strOf (pj n 1++Lib.decDigits b)) ⟨#[46]⟩).run Tryz.prog w=.ok (.string (strOf (pj n 2))) w:=fun w=>by
    have e:pj n 2=pj n 1++Lib.decDigits b++[46]:=by rw[Bd.out];rfl
    rw[e]
    exact str_add _ [46] w (by have h1:=vW.out;have h2:=HBL.out;simp only[pj]at h1⊢;simp;omega)
   clear hb ha hal hbl
   generalize hX:strOf (pj n 1)=X at a1⊢
   generalize hY:strOf (Lib.decDigits b)=Y at a1
   generalize hZ:strOf (pj n 1++Lib.decDigits b)=Z at a1 a2
   generalize hV:strOf (pj n 2)=V at a2
   have kU:=hid hY
   have HXX:=hid hX
   have HZZ:=hid hZ
   have HVV:=hid hV
   clear hV
   clear hX hY hZ
   go_wp2_with fail
   refine(Tab.I4 b (by omega) _ (HT.out.below HB.out)).mono ?_
   rw[kU.out]
   rintro e w2 ⟨rfl,hb2⟩
   have HB2:Hid (Below w.heap.size w w2):=bel HB.out hb2
   clear hb2
   go_wp2
   go_roundw
   case rel=>exact⟨2,by omega,by rw[HVV.out],rfl,HB2⟩
   case measure=>simp[intOf]
  ·obtain⟨b,hb⟩:∃b,b=n / 256%256:=⟨_,rfl⟩
   have hb256:b<256:=by omega
   obtain⟨a,ha⟩:∃a,a=n / 256:=⟨_,rfl⟩
   have hal:a<4294967296:=by omega
   have hsh:(n:Int) / 256=(a:Int):=by omega
   have hand:bits .and .u32 (a:Int) 255=(b:Int):=by rw[Xe a hal];omega
   have hbl:=I5 b hb256
   have HBL:=hid hbl
   have Bd:=hid hb
   have hai:(a:Int)<4294967296:=by omega
   have hbi:(b:Int)<256:=by omega
   have a1:∀w:World,(Op.stringOp .add (strOf (pj n 2)) (strOf (Lib.decDigits b))).run Tryz.prog w=.ok (.string (strOf (pj n 2++Lib.decDigits b))) w:=fun w=>str_add _ _ w (by have h1:=vW.out;have h2:=HBL.out;simp only[pj]at h1⊢;simp;omega)
   have a2:∀w:World,(Op.stringOp .add (strOf (pj n 2++Lib.decDigits b)) ⟨#[46]⟩).run Tryz.prog w=.ok (.string (strOf (pj n 3))) w:=fun w=>by
    have e:pj n 3=pj n 2++Lib.decDigits b++[46]:=by rw[Bd.out];rfl
    rw[e]
    exact str_add _ [46] w (by have h1:=vW.out;have h2:=HBL.out;simp only[pj]at h1⊢;simp;omega)
   clear hb ha hal hbl
   generalize hX:strOf (pj n 2)=X at a1⊢
   generalize hY:strOf (Lib.decDigits b)=Y at a1
   generalize hZ:strOf (pj n 2++Lib.decDigits b)=Z at a1 a2
   generalize hV:strOf (pj n 3)=V at a2
   have kU:=hid hY
   have HXX:=hid hX
   have HZZ:=hid hZ
   have HVV:=hid hV
   clear hV
   clear hX hY hZ
   go_wp2_with fail
   refine(Tab.I4 b (by omega) _ (HT.out.below HB.out)).mono ?_
   rw[kU.out]
   rintro e w2 ⟨rfl,hb2⟩
   have HB2:Hid (Below w.heap.size w w2):=bel HB.out hb2
   clear hb2
   go_wp2
   go_roundw
   case rel=>exact⟨3,by omega,by rw[HVV.out],rfl,HB2⟩
   case measure=>simp[intOf]
  ·obtain⟨b,hb⟩:∃b,b=n%256:=⟨_,rfl⟩
   have hb256:b<256:=by omega
   obtain⟨a,ha⟩:∃a,a=n:=⟨_,rfl⟩
   have hal:a<4294967296:=by omega
   have hsh:(n:Int) / 1=(a:Int):=by omega
   have hand:bits .and .u32 (a:Int) 255=(b:Int):=by rw[Xe a hal];omega
   have hbl:=I5 b hb256
   have HBL:=hid hbl
   have Bd:=hid hb
   have hai:(a:Int)<4294967296:=by omega
   have hbi:(b:Int)<256:=by omega
   have a1:∀w:World,(Op.stringOp .add (strOf (pj n 3)) (strOf (Lib.decDigits b))).run Tryz.prog w=.ok (.string (strOf (pj n 3++Lib.decDigits b))) w:=fun w=>str_add _ _ w (by have h1:=vW.out;have h2:=HBL.out;simp only[pj]at h1⊢;simp;omega)
   have aeX:Hid (pj n 3++Lib.decDigits b=pj n 4):=by show _=_;rw[Bd.out];rfl
   clear hb ha hal hbl
   generalize hX:strOf (pj n 3)=X at a1⊢
   generalize hY:strOf (Lib.decDigits b)=Y at a1
   generalize hZ:strOf (pj n 3++Lib.decDigits b)=Z at a1
   have kU:=hid hY
   have HXX:=hid hX
   have HZZ:=hid hZ
   clear hX hY hZ
   go_wp2_with fail
   refine(Tab.I4 b (by omega) _ (HT.out.below HB.out)).mono ?_
   rw[kU.out]
   rintro e w2 ⟨rfl,hb2⟩
   have HB2:Hid (Below w.heap.size w w2):=bel HB.out hb2
   clear hb2
   go_wp2
   go_roundw
   case rel=>exact⟨4,by omega,by rw[←HZZ.out,aeX.out],rfl,HB2⟩
   case measure=>simp[intOf]
  go_wp2
  go_ret
  exact⟨rfl,HB.out⟩
end Go.Proofs.YtmpeaoacaecgpaaGreatDoor.Gl
namespace Go.Proofs.YtmpeaoacaecgpaaGreatDoor.QudH
open Go.RowKit Base Base2 dI oO Zx acN acO BH QudF Gl
theorem Js (n:Nat) (hn:n<4294967296) (w:World):Calls Tryz.prog 320 #[.int .u32 (n:Int)] w fun e w'=>e=.returned (.string (strOf (pr n)))∧Below w.heap.size w w':=by
 have hl1:=ad5 n hn
 have hl2:=ad6 n hn
 have hl3:=ad7 n hn
 obtain⟨a,ha⟩:∃a,a=n / 16777216:=⟨_,rfl⟩
 have ha2:a<256:=by omega
 have hal:=I5 a ha2
 obtain⟨b,hb⟩:∃b,b=n / 65536%256:=⟨_,rfl⟩
 have hb2:b<256:=by omega
 have hbl:=I5 b hb2
 obtain⟨c,hc⟩:∃c,c=n / 256%256:=⟨_,rfl⟩
 have hc2:c<256:=by omega
 have hcl:=I5 c hc2
 obtain⟨d,hd⟩:∃d,d=n%256:=⟨_,rfl⟩
 have hd2:d<256:=by omega
 have hdl:=I5 d hd2
 have q1:(n:Int).tdiv 16777216=(a:Int):=by rw[Int.tdiv_eq_ediv_of_nonneg (by omega)];omega
 have q2:((n:Int).tdiv 65536).tmod 256=(b:Int):=by rw[Int.tdiv_eq_ediv_of_nonneg (by omega),Int.tmod_eq_emod_of_nonneg (by omega)];omega
 have q3:((n:Int).tdiv 256).tmod 256=(c:Int):=by rw[Int.tdiv_eq_ediv_of_nonneg (by omega),Int.tmod_eq_emod_of_nonneg (by omega)];omega
 have q4:(n:Int).tmod 256=(d:Int):=by rw[Int.tmod_eq_emod_of_nonneg (by omega)];omega
 have r1:(n:Int) / 16777216=(a:Int):=by omega
 have r2:(n:Int) / 65536%256=(b:Int):=by omega
 have r3:(n:Int) / 256%256=(c:Int):=by omega
 have r4:(n:Int)%256=(d:Int):=by omega
 have e1:p1 n=Lib.decDigits a++[46]:=by rw[ha];rfl
 have e2:p2 n=p1 n++Lib.decDigits b++[46]:=by rw[hb];rfl
 have e3:p3 n=p2 n++Lib.decDigits c++[46]:=by rw[hc];rfl
 have e4:pr n=p3 n++Lib.decDigits d:=by rw[hd];rfl
 have s1:∀w:World,(Op.stringOp .add (strOf (Lib.decDigits a)) ⟨#[46]⟩).run Tryz.prog w=.ok (.string (strOf (p1 n))) w:=fun w=>by rw[e1];exact str_add _ [46] w (by simp;omega)
 have s2:∀w:World,(Op.stringOp .add (strOf (p1 n)) (strOf (Lib.decDigits b))).run Tryz.prog w=.ok (.string (strOf (p1 n++Lib.decDigits b))) w:=fun w=>str_add _ _ w (by omega)
 have s3:∀w:World,(Op.stringOp .add (strOf (p1 n++Lib.decDigits b)) ⟨#[46]⟩).run Tryz.prog w=.ok (.string (strOf (p2 n))) w:=fun w=>by rw[e2];exact str_add _ [46] w (by simp;omega)
 have s4:∀w:World,(Op.stringOp .add (strOf (p2 n)) (strOf (Lib.decDigits c))).run Tryz.prog w=.ok (.string (strOf (p2 n++Lib.decDigits c))) w:=fun w=>str_add _ _ w (by omega)
 have s5:∀w:World,(Op.stringOp .add (strOf (p2 n++Lib.decDigits c)) ⟨#[46]⟩).run Tryz.prog w=.ok (.string (strOf (p3 n))) w:=fun w=>by rw[e3];exact str_add _ [46] w (by simp;omega)
 have s6:∀w:World,(Op.stringOp .add (strOf (p3 n)) (strOf (Lib.decDigits d))).run Tryz.prog w=.ok (.string (strOf (pr n))) w:=fun w=>by rw[e4];exact str_add _ _ w (by omega)
 generalize strOf (p1 n)=P1 at s1 s2
 generalize strOf (p1 n++Lib.decDigits b)=P2 at s2 s3
 generalize strOf (p2 n)=P3 at s3 s4
 generalize strOf (p2 n++Lib.decDigits c)=P4 at s4 s5
 generalize strOf (p3 n)=P5 at s5 s6
 generalize strOf (pr n)=P6 at s6⊢
 have DA:=hid (fun w=>rJ (a+1) a (by omega) (by omega) w)
 have DB:=hid (fun w=>rJ (b+1) b (by omega) (by omega) w)
 have DC:=hid (fun w=>rJ (c+1) c (by omega) (by omega) w)
 have DD:=hid (fun w=>rJ (d+1) d (by omega) (by omega) w)
 generalize strOf (Lib.decDigits a)=S1 at s1 DA
 generalize strOf (Lib.decDigits b)=S2 at s2 DB
 generalize strOf (Lib.decDigits c)=S3 at s4 DC
 generalize strOf (Lib.decDigits d)=S4 at s6 DD
 have hni:(n:Int)<4294967296:=by omega
 have hn0:0≤(n:Int):=by omega
 have ha3:(a:Int)<256:=by omega
 have hb3:(b:Int)<256:=by omega
 have hc3:(c:Int)<256:=by omega
 have hd3:(d:Int)<256:=by omega
 clear e1 e2 e3 e4 hl1 hl2 hl3 hal hbl hcl hdl ha hb hc hd ha2 hb2 hc2 hd2
 go_enter Tryz.func320,Tryz.ntmps320
 go_wp2_with fail
 refine(DA.out _).mono ?_
 rintro e w2 ⟨rfl,h2⟩
 have H2:=hid h2
 clear h2
 go_wp2_with fail
 refine(DB.out _).mono ?_
 rintro e w3 ⟨rfl,h3⟩
 have H3:=hid (bel H2.out h3)
 clear h3
 go_wp2_with fail
 refine(DC.out _).mono ?_
 rintro e w4 ⟨rfl,h4⟩
 have H4:=hid (bel H3.out h4)
 clear h4
 go_wp2_with fail
 refine(DD.out _).mono ?_
 rintro e w5 ⟨rfl,h5⟩
 have H5:=hid (bel H4.out h5)
 clear h5
 go_wp2
 go_ret
 exact⟨rfl,H5.out⟩
end Go.Proofs.YtmpeaoacaecgpaaGreatDoor.QudH
