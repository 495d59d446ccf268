/- Texts that belong together: BH, Tab, Gl, zD, FM, fU, acJ, acA, acL, Kr. -/
import Derived.Test.YtgamccijegollaaGreatDoorFNAAD
import Derived.Test.YtgamccijegollaaGreatDoorFNAAA
import Derived.Test.YtgamccijegollaaGreatDoorShelf
import Derived.Lib.LaidU8
import Derived.Lib.LaidTab
import Derived.Lib.SmallJoins
import Derived.Sort.Grow
import Derived.Laws.BitsAllLaws
import Derived.Laws.IdiomStrings
import Derived.Deep.QuietTactic
import Derived.BigQuiet
set_option linter.unusedSimpArgs false
set_option linter.unusedVariables false
set_option maxRecDepth 100000
set_option maxHeartbeats 64000000
namespace Go.Proofs.YtgamccijegollaaGreatDoor.BH
open Go.RowKit Base Dp dI oO Zx acN acO
def oN (o:Option Nat):Value:=match o with
 |some v=>.tuple #[.int .u32 v,.bool true]
 |none=>.tuple #[.int .u32 0,.bool false]
theorem dh (o:Option Nat) (h:o=none):oN o=.tuple #[.int .u32 0,.bool false]:=by rw[h];rfl
theorem yX (o:Option Nat) (v:Nat) (h:o=some v):oN o=.tuple #[.int .u32 v,.bool true]:=by rw[h];rfl
theorem drop_at {α:Type} (R:List α) (k:Nat) (p:α) (hk:k<R.length) (h:R[k]=p):R.drop k=p::R.drop (k+1):=by rw[←h];exact List.drop_eq_getElem_cons hk
theorem CW (most acc:Nat) (p:List UInt8) (r:List (List UInt8)) (h:num p=none):mZ most acc (p::r)=none:=by
 cases r<;>(unfold mZ;rw[h])
theorem ng (most acc:Nat) (p:List UInt8) (v:Nat) (h:num p=some v) (hv:v<most):mZ most acc [p]=some (acc+v):=by unfold mZ;rw[h];simp only;rw[if_pos hv]
theorem jV (most acc:Nat) (p:List UInt8) (v:Nat) (h:num p=some v) (hv:¬v<most):mZ most acc [p]=none:=by unfold mZ;rw[h];simp only;rw[if_neg hv]
theorem zK (most acc:Nat) (p q:List UInt8) (r:List (List UInt8)) (v:Nat) (h:num p=some v) (hv:v≤255):mZ most acc (p::q::r)=mZ (most / 256) (acc+v*(most / 256)) (q::r):=by
 conv=>lhs;unfold mZ
 rw[h];simp only;rw[if_pos hv]
theorem qj (most acc:Nat) (p q:List UInt8) (r:List (List UInt8)) (v:Nat) (h:num p=some v) (hv:¬v≤255):mZ most acc (p::q::r)=none:=by unfold mZ;rw[h];simp only;rw[if_neg hv]
theorem drop_end {α:Type} (R:List α) (k:Nat) (h:R.length=k):R.drop k=[]:=by subst h;exact List.drop_length
def mk:Nat→Nat
 |0=>4294967296
 |1=>16777216
 |2=>65536
 |3=>256
 |_=>1
theorem D9 (v m:Nat) (hm:m≤4294967296):v<m↔sat v<m:=by unfold sat;omega
theorem G9 (v:Nat) (h:sat v<4294967296):sat v=v:=by unfold sat at h⊢;omega
theorem parse_any (s:ByteArray) (w:World) (hs:s.size≤900000) (hM:Max w):Calls Tryz.prog 305 #[.string s] w fun e w'=>e=.returned (oN (NR s.data.toList))∧Below w.heap.size w w':=by
 have hsl:s.data.toList.length=s.size:=Array.length_toList
 obtain⟨S,hS⟩:∃S,S=NR s.data.toList:=⟨_,rfl⟩
 obtain⟨R,hR⟩:∃R,R=bZ (oH s.data.toList):=⟨_,rfl⟩
 have hS2:S=if R.length≤4 then mZ 4294967296 0 R else none:=by rw[hS,hR];rfl
 obtain⟨U,hU⟩:∃U,U=strOf (oH s.data.toList):=⟨_,rfl⟩
 have hUd:U.data.toList=oH s.data.toList:=by rw[hU];rfl
 have hul:(oH s.data.toList).length≤s.size:=by rw[←hsl];exact Fa _
 have hus:U.size≤900000:=by rw[hU,o9];omega
 have Qi:0<R.length:=by rw[hR];exact List.length_pos_iff.2 (qY _)
 have hrl:R.length≤900001:=by have:=rW (oH s.data.toList);rw[hR];omega
 have Bf:Hid (∀p ∈ R,p.length≤900000):=by
  intro p hp
  rw[hR]at hp
  have:=qK _ p hp
  omega
 have hUR:bZ U.data.toList=R:=by rw[hUd,hR]
 have HUR:=hid hUR
 have HU:=hid hU
 have SB:=hid hM
 have HS2:=hid hS2
 rw[←hS]
 clear hS hS2 hR hU hUd hul hUR hM hsl
 go_enter Tryz.func305,Tryz.ntmps305
 go_wp2_with fail
 refine(Nv s _ (by omega)).mono ?_
 rintro e w2 ⟨rfl,hw2⟩
 subst hw2
 rw[←HU.out]
 go_wp2_with fail
 refine(aiJ U _ (by omega) SB.out).mono ?_
 rw[HUR.out]
 rintro e w3 ⟨A,n,c,rfl,hn,hnc,hcm,hrd,hb⟩
 rw[←hn]at Qi hrl
 obtain⟨g,off,rfl,hg,hcell⟩:=hrd.spot Qi
 have aeW:=hid hcell
 have HB:=hid hb
 have HN:=hid hn
 unfold maxLen at hcm
 clear hn hrd hcell hb
 by_cases h4:n≤4
 ·have h4i:¬(3:Int)<(n:Int) - 1:=by omega
  have HW0:Hid (S=mZ 4294967296 0 (R.drop 0)):=by show _=_;rw[HS2.out,if_pos (by rw[←HN.out];exact h4),List.drop_zero]
  go_wp2
  obtain⟨q,hq⟩:∃q:Int,q=(n:Int) - 1:=⟨_,rfl⟩
  rw[←hq]
  have HQ:=hid hq
  clear hq h4i
  generalize decide ((3:Int)<q)=dd
  go_loopw [6,7,8,9,10,21] (fun va _ _ _ _ vk wr=>∃(k acc:Nat),k≤n∧vk=.int .i64 (k:Int)∧wr=w3∧va=.int .u64 (acc:Int)∧acc<4294967296∧Hid (k<n→acc+mk k≤4294967296)∧Hid (S=mZ (mk k) acc (R.drop k))) (fun _ _ _ _ _ vk _=>n - (intOf vk).toNat)
  case atStart=>exact⟨0,0,Nat.zero_le _,rfl,rfl,rfl,by omega,fun _=>Nat.le_refl _,HW0⟩
  case round=>
   clear HW0
   obtain⟨k,acc,hk,rfl,rfl,rfl,nG,HAC,HW⟩:=hrel
   by_cases hlt:k<n
   ·have hacc := HAC.out hlt
    have hk4:k=0∨k=1∨k=2∨k=3:=by omega
    clear HAC
    rcases hk4 with rfl|rfl|rfl|rfl
    ·simp only[mk]at hacc HW
     obtain⟨p,hp⟩:∃p,p=R[0]'(by rw[←HN.out];exact hlt):=⟨_,rfl⟩
     obtain⟨Y,hY⟩:∃Y,Y=strOf p:=⟨_,rfl⟩
     have hcl:=(aeW.out 0 (by rw[List.length_map,List.length_map,←HN.out];exact hlt))
     rw[List.getElem_map,List.getElem_map,←hp,←hY]at hcl
     try rw[Nat.add_zero]at hcl
     have kU:Hid (Y.data.toList=p):=by show _=_;rw[hY];rfl
     have hys:Y.size≤1073741824:=by
      rw[hY,o9]
      have:=Bf.out p (by rw[hp];exact List.getElem_mem _)
      omega
     have HDR:Hid (R.drop 0=p::R.drop 1):=drop_at R 0 p (by rw[←HN.out];exact hlt) hp.symm
     clear hp hY
     cases hnp:num p with
     |none=>
      have HV:=hid (yQ p hnp)
      have HE:=hid (dh S (by rw[HW.out,HDR.out];exact CW _ _ _ _ hnp))
      clear hnp
      go_wp2_with fail
      refine(bf Y _ hys).mono ?_
      rw[kU.out,HV.out]
      rintro e w4 ⟨rfl,hw4⟩
      subst hw4
      go_wp2
      go_ret2
      exact⟨by rw[HE.out];rfl,HB.out⟩
     | some v=>
      have HV:=hid (yR p v hnp)
      obtain⟨x,hx⟩:∃x,x=sat v:=⟨_,rfl⟩
      have hx2:x≤4294967296:=by rw[hx];unfold sat;omega
      rw[←hx]at HV
      by_cases hq:n=1
      ·have vC:R.drop 1=[]:=drop_end R _ (by rw[←HN.out];exact hq)
       have hA:((0:Int)==q)=true:=by have:=HQ.out;simp;omega
       have hB:¬(0:Int)<q:=by have:=HQ.out;omega
       have hC:4 - q=4:=by have:=HQ.out;omega
       have Cm:=hid hq
       clear hq
       by_cases hxm:x<4294967296
       ·have hxv:x=v:=by rw[hx];exact G9 v (by rw[←hx];omega)
        have HE:=hid ((show S=mZ 4294967296 acc [p]by rw[HW.out,HDR.out,vC]).trans (ng 4294967296 acc p v hnp ((D9 v 4294967296 (by omega)).2 (by rw[←hx];exact hxm))))
        have UE:=hid hxv
        have YM:=hid vC
        clear hnp hx hxv vC
        have eG:Hid ((acc:Int)+(x:Int)=((acc+v:Nat):Int)):=by show _=_;rw[UE.out];omega
        have hxi:(x:Int)<4294967296:=by omega
        have hx0:(0:Int)≤(x:Int):=by omega
        have hai:(acc:Int)+4294967296≤4294967296:=by omega
        have ha0:(0:Int)≤(acc:Int):=by omega
        have hvb:acc+v<4294967296:=by have:=UE.out;omega
        have Fh:=hid hvb
        clear hxm hx2 hacc hvb
        have Gf:Hid (S=mZ (mk 1) (acc+v) (R.drop 1)):=by show _=_;rw[YM.out];exact HE.out
        generalize (x:Int)=X at hxi hx0 eG HV
        generalize (acc:Int)=AC at hai ha0 eG⊢
        go_wp2_with fail
        refine(bf Y _ hys).mono ?_
        rw[kU.out,HV.out]
        rintro e w4 ⟨rfl,hw4⟩
        subst hw4
        go_wp2
        go_roundw
        case rel=>exact⟨1,acc+v,by have:=Cm.out;omega,by go_num,by first|rfl|trivial,by first|exact int_eq eG.out|(rw[←eG.out]),Fh.out,fun h=>absurd h (by have:=Cm.out;omega),Gf⟩
        case measure=>(have:=Cm.out;simp[intOf];omega)
       have HE:=hid (dh S ((show S=mZ 4294967296 acc [p]by rw[HW.out,HDR.out,vC]).trans (jV 4294967296 acc p v hnp (fun h=>hxm (by rw[hx];exact(D9 v 4294967296 (by omega)).1 h)))))
       have hxi:¬(x:Int)<4294967296:=by omega
       have hx0:(0:Int)≤(x:Int):=by omega
       have KN:(x:Int)≤4294967296:=by omega
       clear hnp hx vC hxm hx2
       generalize (x:Int)=X at hxi hx0 KN HV
       generalize (acc:Int)=AC
       go_wp2_with fail
       refine(bf Y _ hys).mono ?_
       rw[kU.out,HV.out]
       rintro e w4 ⟨rfl,hw4⟩
       subst hw4
       go_wp2
       go_ret2
       exact⟨by rw[HE.out];rfl,HB.out⟩
      have hA:((0:Int)==q)=false:=by have:=HQ.out;simp;omega
      have hB:(0:Int)<q:=by have:=HQ.out;omega
      have hlt2:1<n:=by omega
      obtain⟨p2,hp2⟩:∃p2,p2=R[1]'(by rw[←HN.out];exact hlt2):=⟨_,rfl⟩
      have lF:R.drop 1=p2::R.drop 2:=drop_at R 1 p2 (by rw[←HN.out];exact hlt2) hp2.symm
      have Cj:=hid hlt2
      clear hp2 hq hlt2
      by_cases hxm:x≤255
      ·have hxv:x=v:=by rw[hx];exact G9 v (by rw[←hx];omega)
       have HE:=hid ((show S=mZ 4294967296 acc (p::p2::R.drop 2)by rw[HW.out,HDR.out,lF]).trans (zK 4294967296 acc p p2 (R.drop 2) v hnp (by omega)))
       have OJ:=hid lF
       have UE:=hid hxv
       clear hnp hx hxv lF
       have eG:Hid ((acc:Int)+(x:Int)*16777216=((acc+v*16777216:Nat):Int)):=by show _=_;rw[UE.out];omega
       have hxi:(x:Int)≤255:=by omega
       have hx0:(0:Int)≤(x:Int):=by omega
       have hai:(acc:Int)+4294967296≤4294967296:=by omega
       have ha0:(0:Int)≤(acc:Int):=by omega
       have Fh:Hid (acc+v*16777216+16777216≤4294967296):=by have:=UE.out;show _≤_;omega
       have Gf:Hid (S=mZ (mk 1) (acc+v*16777216) (R.drop 1)):=by show _=_;rw[OJ.out];exact HE.out
       clear hxm hx2 hacc
       generalize (x:Int)=X at hxi hx0 eG HV
       generalize (acc:Int)=AC at hai ha0 eG⊢
       go_wp2_with fail
       refine(bf Y _ hys).mono ?_
       rw[kU.out,HV.out]
       rintro e w4 ⟨rfl,hw4⟩
       subst hw4
       go_wp2
       go_roundw
       case rel=>exact⟨1,acc+v*16777216,by have:=Cj.out;omega,by go_num,by first|rfl|trivial,by first|exact int_eq eG.out|(rw[←eG.out]),by have:=Fh.out;omega,fun _=>Fh.out,Gf⟩
       case measure=>(have:=Cj.out;simp[intOf];omega)
      have HE:=hid (dh S ((show S=mZ 4294967296 acc (p::p2::R.drop 2)by rw[HW.out,HDR.out,lF]).trans (qj 4294967296 acc p p2 (R.drop 2) v hnp (fun h=>hxm (by rw[hx];unfold sat;omega)))))
      have hxi:¬(x:Int)≤255:=by omega
      have Qy:(255:Int)<(x:Int):=by omega
      have KN:(x:Int)≤4294967296:=by omega
      clear hnp hx lF hxm hx2
      generalize (x:Int)=X at hxi Qy KN HV
      generalize (acc:Int)=AC
      go_wp2_with fail
      refine(bf Y _ hys).mono ?_
      rw[kU.out,HV.out]
      rintro e w4 ⟨rfl,hw4⟩
      subst hw4
      go_wp2
      go_ret2
      exact⟨by rw[HE.out];rfl,HB.out⟩
    ·simp only[mk]at hacc HW
     obtain⟨p,hp⟩:∃p,p=R[1]'(by rw[←HN.out];exact hlt):=⟨_,rfl⟩
     obtain⟨Y,hY⟩:∃Y,Y=strOf p:=⟨_,rfl⟩
     have hcl:=(aeW.out 1 (by rw[List.length_map,List.length_map,←HN.out];exact hlt))
     rw[List.getElem_map,List.getElem_map,←hp,←hY]at hcl
     try rw[Nat.add_zero]at hcl
     have kU:Hid (Y.data.toList=p):=by show _=_;rw[hY];rfl
     have hys:Y.size≤1073741824:=by
      rw[hY,o9]
      have:=Bf.out p (by rw[hp];exact List.getElem_mem _)
      omega
     have HDR:Hid (R.drop 1=p::R.drop 2):=drop_at R 1 p (by rw[←HN.out];exact hlt) hp.symm
     clear hp hY
     cases hnp:num p with
     |none=>
      have HV:=hid (yQ p hnp)
      have HE:=hid (dh S (by rw[HW.out,HDR.out];exact CW _ _ _ _ hnp))
      clear hnp
      go_wp2_with fail
      refine(bf Y _ hys).mono ?_
      rw[kU.out,HV.out]
      rintro e w4 ⟨rfl,hw4⟩
      subst hw4
      go_wp2
      go_ret2
      exact⟨by rw[HE.out];rfl,HB.out⟩
     | some v=>
      have HV:=hid (yR p v hnp)
      obtain⟨x,hx⟩:∃x,x=sat v:=⟨_,rfl⟩
      have hx2:x≤4294967296:=by rw[hx];unfold sat;omega
      rw[←hx]at HV
      by_cases hq:n=2
      ·have vC:R.drop 2=[]:=drop_end R _ (by rw[←HN.out];exact hq)
       have hA:((1:Int)==q)=true:=by have:=HQ.out;simp;omega
       have hB:¬(1:Int)<q:=by have:=HQ.out;omega
       have hC:4 - q=3:=by have:=HQ.out;omega
       have Cm:=hid hq
       clear hq
       by_cases hxm:x<16777216
       ·have hxv:x=v:=by rw[hx];exact G9 v (by rw[←hx];omega)
        have HE:=hid ((show S=mZ 16777216 acc [p]by rw[HW.out,HDR.out,vC]).trans (ng 16777216 acc p v hnp ((D9 v 16777216 (by omega)).2 (by rw[←hx];exact hxm))))
        have UE:=hid hxv
        have YM:=hid vC
        clear hnp hx hxv vC
        have eG:Hid ((acc:Int)+(x:Int)=((acc+v:Nat):Int)):=by show _=_;rw[UE.out];omega
        have hxi:(x:Int)<16777216:=by omega
        have hx0:(0:Int)≤(x:Int):=by omega
        have hai:(acc:Int)+16777216≤4294967296:=by omega
        have ha0:(0:Int)≤(acc:Int):=by omega
        have hvb:acc+v<4294967296:=by have:=UE.out;omega
        have Fh:=hid hvb
        clear hxm hx2 hacc hvb
        have Gf:Hid (S=mZ (mk 2) (acc+v) (R.drop 2)):=by show _=_;rw[YM.out];exact HE.out
        generalize (x:Int)=X at hxi hx0 eG HV
        generalize (acc:Int)=AC at hai ha0 eG⊢
        go_wp2_with fail
        refine(bf Y _ hys).mono ?_
        rw[kU.out,HV.out]
        rintro e w4 ⟨rfl,hw4⟩
        subst hw4
        go_wp2
        go_roundw
        case rel=>exact⟨2,acc+v,by have:=Cm.out;omega,by go_num,by first|rfl|trivial,by first|exact int_eq eG.out|(rw[←eG.out]),Fh.out,fun h=>absurd h (by have:=Cm.out;omega),Gf⟩
        case measure=>(have:=Cm.out;simp[intOf];omega)
       have HE:=hid (dh S ((show S=mZ 16777216 acc [p]by rw[HW.out,HDR.out,vC]).trans (jV 16777216 acc p v hnp (fun h=>hxm (by rw[hx];exact(D9 v 16777216 (by omega)).1 h)))))
       have hxi:¬(x:Int)<16777216:=by omega
       have hx0:(0:Int)≤(x:Int):=by omega
       have KN:(x:Int)≤4294967296:=by omega
       clear hnp hx vC hxm hx2
       generalize (x:Int)=X at hxi hx0 KN HV
       generalize (acc:Int)=AC
       go_wp2_with fail
       refine(bf Y _ hys).mono ?_
       rw[kU.out,HV.out]
       rintro e w4 ⟨rfl,hw4⟩
       subst hw4
       go_wp2
       go_ret2
       exact⟨by rw[HE.out];rfl,HB.out⟩
      have hA:((1:Int)==q)=false:=by have:=HQ.out;simp;omega
      have hB:(1:Int)<q:=by have:=HQ.out;omega
      have hlt2:2<n:=by omega
      obtain⟨p2,hp2⟩:∃p2,p2=R[2]'(by rw[←HN.out];exact hlt2):=⟨_,rfl⟩
      have lF:R.drop 2=p2::R.drop 3:=drop_at R 2 p2 (by rw[←HN.out];exact hlt2) hp2.symm
      have Cj:=hid hlt2
      clear hp2 hq hlt2
      by_cases hxm:x≤255
      ·have hxv:x=v:=by rw[hx];exact G9 v (by rw[←hx];omega)
       have HE:=hid ((show S=mZ 16777216 acc (p::p2::R.drop 3)by rw[HW.out,HDR.out,lF]).trans (zK 16777216 acc p p2 (R.drop 3) v hnp (by omega)))
       have OJ:=hid lF
       have UE:=hid hxv
       clear hnp hx hxv lF
       have eG:Hid ((acc:Int)+(x:Int)*65536=((acc+v*65536:Nat):Int)):=by show _=_;rw[UE.out];omega
       have hxi:(x:Int)≤255:=by omega
       have hx0:(0:Int)≤(x:Int):=by omega
       have hai:(acc:Int)+16777216≤4294967296:=by omega
       have ha0:(0:Int)≤(acc:Int):=by omega
       have Fh:Hid (acc+v*65536+65536≤4294967296):=by have:=UE.out;show _≤_;omega
       have Gf:Hid (S=mZ (mk 2) (acc+v*65536) (R.drop 2)):=by show _=_;rw[OJ.out];exact HE.out
       clear hxm hx2 hacc
       generalize (x:Int)=X at hxi hx0 eG HV
       generalize (acc:Int)=AC at hai ha0 eG⊢
       go_wp2_with fail
       refine(bf Y _ hys).mono ?_
       rw[kU.out,HV.out]
       rintro e w4 ⟨rfl,hw4⟩
       subst hw4
       go_wp2
       go_roundw
       case rel=>exact⟨2,acc+v*65536,by have:=Cj.out;omega,by go_num,by first|rfl|trivial,by first|exact int_eq eG.out|(rw[←eG.out]),by have:=Fh.out;omega,fun _=>Fh.out,Gf⟩
       case measure=>(have:=Cj.out;simp[intOf];omega)
      have HE:=hid (dh S ((show S=mZ 16777216 acc (p::p2::R.drop 3)by rw[HW.out,HDR.out,lF]).trans (qj 16777216 acc p p2 (R.drop 3) v hnp (fun h=>hxm (by rw[hx];unfold sat;omega)))))
      have hxi:¬(x:Int)≤255:=by omega
      have Qy:(255:Int)<(x:Int):=by omega
      have KN:(x:Int)≤4294967296:=by omega
      clear hnp hx lF hxm hx2
      generalize (x:Int)=X at hxi Qy KN HV
      generalize (acc:Int)=AC
      go_wp2_with fail
      refine(bf Y _ hys).mono ?_
      rw[kU.out,HV.out]
      rintro e w4 ⟨rfl,hw4⟩
      subst hw4
      go_wp2
      go_ret2
      exact⟨by rw[HE.out];rfl,HB.out⟩
    ·simp only[mk]at hacc HW
     obtain⟨p,hp⟩:∃p,p=R[2]'(by rw[←HN.out];exact hlt):=⟨_,rfl⟩
     obtain⟨Y,hY⟩:∃Y,Y=strOf p:=⟨_,rfl⟩
     have hcl:=(aeW.out 2 (by rw[List.length_map,List.length_map,←HN.out];exact hlt))
     rw[List.getElem_map,List.getElem_map,←hp,←hY]at hcl
     try rw[Nat.add_zero]at hcl
     have kU:Hid (Y.data.toList=p):=by show _=_;rw[hY];rfl
     have hys:Y.size≤1073741824:=by
      rw[hY,o9]
      have:=Bf.out p (by rw[hp];exact List.getElem_mem _)
      omega
     have HDR:Hid (R.drop 2=p::R.drop 3):=drop_at R 2 p (by rw[←HN.out];exact hlt) hp.symm
     clear hp hY
     cases hnp:num p with
     |none=>
      have HV:=hid (yQ p hnp)
      have HE:=hid (dh S (by rw[HW.out,HDR.out];exact CW _ _ _ _ hnp))
      clear hnp
      go_wp2_with fail
      refine(bf Y _ hys).mono ?_
      rw[kU.out,HV.out]
      rintro e w4 ⟨rfl,hw4⟩
      subst hw4
      go_wp2
      go_ret2
      exact⟨by rw[HE.out];rfl,HB.out⟩
     | some v=>
      have HV:=hid (yR p v hnp)
      obtain⟨x,hx⟩:∃x,x=sat v:=⟨_,rfl⟩
      have hx2:x≤4294967296:=by rw[hx];unfold sat;omega
      rw[←hx]at HV
      by_cases hq:n=3
      ·have vC:R.drop 3=[]:=drop_end R _ (by rw[←HN.out];exact hq)
       have hA:((2:Int)==q)=true:=by have:=HQ.out;simp;omega
       have hB:¬(2:Int)<q:=by have:=HQ.out;omega
       have hC:4 - q=2:=by have:=HQ.out;omega
       have Cm:=hid hq
       clear hq
       by_cases hxm:x<65536
       ·have hxv:x=v:=by rw[hx];exact G9 v (by rw[←hx];omega)
        have HE:=hid ((show S=mZ 65536 acc [p]by rw[HW.out,HDR.out,vC]).trans (ng 65536 acc p v hnp ((D9 v 65536 (by omega)).2 (by rw[←hx];exact hxm))))
        have UE:=hid hxv
        have YM:=hid vC
        clear hnp hx hxv vC
        have eG:Hid ((acc:Int)+(x:Int)=((acc+v:Nat):Int)):=by show _=_;rw[UE.out];omega
        have hxi:(x:Int)<65536:=by omega
        have hx0:(0:Int)≤(x:Int):=by omega
        have hai:(acc:Int)+65536≤4294967296:=by omega
        have ha0:(0:Int)≤(acc:Int):=by omega
        have hvb:acc+v<4294967296:=by have:=UE.out;omega
        have Fh:=hid hvb
        clear hxm hx2 hacc hvb
        have Gf:Hid (S=mZ (mk 3) (acc+v) (R.drop 3)):=by show _=_;rw[YM.out];exact HE.out
        generalize (x:Int)=X at hxi hx0 eG HV
        generalize (acc:Int)=AC at hai ha0 eG⊢
        go_wp2_with fail
        refine(bf Y _ hys).mono ?_
        rw[kU.out,HV.out]
        rintro e w4 ⟨rfl,hw4⟩
        subst hw4
        go_wp2
        go_roundw
        case rel=>exact⟨3,acc+v,by have:=Cm.out;omega,by go_num,by first|rfl|trivial,by first|exact int_eq eG.out|(rw[←eG.out]),Fh.out,fun h=>absurd h (by have:=Cm.out;omega),Gf⟩
        case measure=>(have:=Cm.out;simp[intOf];omega)
       have HE:=hid (dh S ((show S=mZ 65536 acc [p]by rw[HW.out,HDR.out,vC]).trans (jV 65536 acc p v hnp (fun h=>hxm (by rw[hx];exact(D9 v 65536 (by omega)).1 h)))))
       have hxi:¬(x:Int)<65536:=by omega
       have hx0:(0:Int)≤(x:Int):=by omega
       have KN:(x:Int)≤4294967296:=by omega
       clear hnp hx vC hxm hx2
       generalize (x:Int)=X at hxi hx0 KN HV
       generalize (acc:Int)=AC
       go_wp2_with fail
       refine(bf Y _ hys).mono ?_
       rw[kU.out,HV.out]
       rintro e w4 ⟨rfl,hw4⟩
       subst hw4
       go_wp2
       go_ret2
       exact⟨by rw[HE.out];rfl,HB.out⟩
      have hA:((2:Int)==q)=false:=by have:=HQ.out;simp;omega
      have hB:(2:Int)<q:=by have:=HQ.out;omega
      have hlt2:3<n:=by omega
      obtain⟨p2,hp2⟩:∃p2,p2=R[3]'(by rw[←HN.out];exact hlt2):=⟨_,rfl⟩
      have lF:R.drop 3=p2::R.drop 4:=drop_at R 3 p2 (by rw[←HN.out];exact hlt2) hp2.symm
      have Cj:=hid hlt2
      clear hp2 hq hlt2
      by_cases hxm:x≤255
      ·have hxv:x=v:=by rw[hx];exact G9 v (by rw[←hx];omega)
       have HE:=hid ((show S=mZ 65536 acc (p::p2::R.drop 4)by rw[HW.out,HDR.out,lF]).trans (zK 65536 acc p p2 (R.drop 4) v hnp (by omega)))
       have OJ:=hid lF
       have UE:=hid hxv
       clear hnp hx hxv lF
       have eG:Hid ((acc:Int)+(x:Int)*256=((acc+v*256:Nat):Int)):=by show _=_;rw[UE.out];omega
       have hxi:(x:Int)≤255:=by omega
       have hx0:(0:Int)≤(x:Int):=by omega
       have hai:(acc:Int)+65536≤4294967296:=by omega
       have ha0:(0:Int)≤(acc:Int):=by omega
       have Fh:Hid (acc+v*256+256≤4294967296):=by have:=UE.out;show _≤_;omega
       have Gf:Hid (S=mZ (mk 3) (acc+v*256) (R.drop 3)):=by show _=_;rw[OJ.out];exact HE.out
       clear hxm hx2 hacc
       generalize (x:Int)=X at hxi hx0 eG HV
       generalize (acc:Int)=AC at hai ha0 eG⊢
       go_wp2_with fail
       refine(bf Y _ hys).mono ?_
       rw[kU.out,HV.out]
       rintro e w4 ⟨rfl,hw4⟩
       subst hw4
       go_wp2
       go_roundw
       case rel=>exact⟨3,acc+v*256,by have:=Cj.out;omega,by go_num,by first|rfl|trivial,by first|exact int_eq eG.out|(rw[←eG.out]),by have:=Fh.out;omega,fun _=>Fh.out,Gf⟩
       case measure=>(have:=Cj.out;simp[intOf];omega)
      have HE:=hid (dh S ((show S=mZ 65536 acc (p::p2::R.drop 4)by rw[HW.out,HDR.out,lF]).trans (qj 65536 acc p p2 (R.drop 4) v hnp (fun h=>hxm (by rw[hx];unfold sat;omega)))))
      have hxi:¬(x:Int)≤255:=by omega
      have Qy:(255:Int)<(x:Int):=by omega
      have KN:(x:Int)≤4294967296:=by omega
      clear hnp hx lF hxm hx2
      generalize (x:Int)=X at hxi Qy KN HV
      generalize (acc:Int)=AC
      go_wp2_with fail
      refine(bf Y _ hys).mono ?_
      rw[kU.out,HV.out]
      rintro e w4 ⟨rfl,hw4⟩
      subst hw4
      go_wp2
      go_ret2
      exact⟨by rw[HE.out];rfl,HB.out⟩
    simp only[mk]at hacc HW
    obtain⟨p,hp⟩:∃p,p=R[3]'(by rw[←HN.out];exact hlt):=⟨_,rfl⟩
    obtain⟨Y,hY⟩:∃Y,Y=strOf p:=⟨_,rfl⟩
    have hcl:=(aeW.out 3 (by rw[List.length_map,List.length_map,←HN.out];exact hlt))
    rw[List.getElem_map,List.getElem_map,←hp,←hY]at hcl
    try rw[Nat.add_zero]at hcl
    have kU:Hid (Y.data.toList=p):=by show _=_;rw[hY];rfl
    have hys:Y.size≤1073741824:=by
     rw[hY,o9]
     have:=Bf.out p (by rw[hp];exact List.getElem_mem _)
     omega
    have HDR:Hid (R.drop 3=p::R.drop 4):=drop_at R 3 p (by rw[←HN.out];exact hlt) hp.symm
    clear hp hY
    cases hnp:num p with
    |none=>
     have HV:=hid (yQ p hnp)
     have HE:=hid (dh S (by rw[HW.out,HDR.out];exact CW _ _ _ _ hnp))
     clear hnp
     go_wp2_with fail
     refine(bf Y _ hys).mono ?_
     rw[kU.out,HV.out]
     rintro e w4 ⟨rfl,hw4⟩
     subst hw4
     go_wp2
     go_ret2
     exact⟨by rw[HE.out];rfl,HB.out⟩
    | some v=>
     have HV:=hid (yR p v hnp)
     obtain⟨x,hx⟩:∃x,x=sat v:=⟨_,rfl⟩
     have hx2:x≤4294967296:=by rw[hx];unfold sat;omega
     rw[←hx]at HV
     by_cases hq:n=4
     ·have vC:R.drop 4=[]:=drop_end R _ (by rw[←HN.out];exact hq)
      have hA:((3:Int)==q)=true:=by have:=HQ.out;simp;omega
      have hB:¬(3:Int)<q:=by have:=HQ.out;omega
      have hC:4 - q=1:=by have:=HQ.out;omega
      have Cm:=hid hq
      clear hq
      by_cases hxm:x<256
      ·have hxv:x=v:=by rw[hx];exact G9 v (by rw[←hx];omega)
       have HE:=hid ((show S=mZ 256 acc [p]by rw[HW.out,HDR.out,vC]).trans (ng 256 acc p v hnp ((D9 v 256 (by omega)).2 (by rw[←hx];exact hxm))))
       have UE:=hid hxv
       have YM:=hid vC
       clear hnp hx hxv vC
       have eG:Hid ((acc:Int)+(x:Int)=((acc+v:Nat):Int)):=by show _=_;rw[UE.out];omega
       have hxi:(x:Int)<256:=by omega
       have hx0:(0:Int)≤(x:Int):=by omega
       have hai:(acc:Int)+256≤4294967296:=by omega
       have ha0:(0:Int)≤(acc:Int):=by omega
       have hvb:acc+v<4294967296:=by have:=UE.out;omega
       have Fh:=hid hvb
       clear hxm hx2 hacc hvb
       have Gf:Hid (S=mZ (mk 4) (acc+v) (R.drop 4)):=by show _=_;rw[YM.out];exact HE.out
       generalize (x:Int)=X at hxi hx0 eG HV
       generalize (acc:Int)=AC at hai ha0 eG⊢
       go_wp2_with fail
       refine(bf Y _ hys).mono ?_
       rw[kU.out,HV.out]
       rintro e w4 ⟨rfl,hw4⟩
       subst hw4
       go_wp2
       go_roundw
       case rel=>exact⟨4,acc+v,by have:=Cm.out;omega,by go_num,by first|rfl|trivial,by first|exact int_eq eG.out|(rw[←eG.out]),Fh.out,fun h=>absurd h (by have:=Cm.out;omega),Gf⟩
       case measure=>(have:=Cm.out;simp[intOf];omega)
      have HE:=hid (dh S ((show S=mZ 256 acc [p]by rw[HW.out,HDR.out,vC]).trans (jV 256 acc p v hnp (fun h=>hxm (by rw[hx];exact(D9 v 256 (by omega)).1 h)))))
      have hxi:¬(x:Int)<256:=by omega
      have hx0:(0:Int)≤(x:Int):=by omega
      have KN:(x:Int)≤4294967296:=by omega
      clear hnp hx vC hxm hx2
      generalize (x:Int)=X at hxi hx0 KN HV
      generalize (acc:Int)=AC
      go_wp2_with fail
      refine(bf Y _ hys).mono ?_
      rw[kU.out,HV.out]
      rintro e w4 ⟨rfl,hw4⟩
      subst hw4
      go_wp2
      go_ret2
      exact⟨by rw[HE.out];rfl,HB.out⟩
     exact absurd hlt (by omega)
   obtain rfl:k=n:=by omega
   have HE:=hid (yX S acc (by rw[HW.out,drop_end R k HN.out.symm];rfl))
   have ha0:(0:Int)≤(acc:Int):=by omega
   have hai:(acc:Int)<4294967296:=by omega
   clear nG
   generalize (acc:Int)=AC at ha0 hai HE⊢
   go_wp2
   go_ret2
   exact⟨by rw[HE.out];rfl,HB.out⟩
 have h4i:(3:Int)<(n:Int) - 1:=by omega
 have HE:=hid (dh S (by rw[HS2.out,if_neg (by rw[←HN.out];exact h4)]))
 go_wp2
 go_ret2
 exact⟨by rw[HE.out];rfl,HB.out⟩
end Go.Proofs.YtgamccijegollaaGreatDoor.BH
namespace Go.Proofs.YtgamccijegollaaGreatDoor.Tab
open Go.RowKit Base
def Pow (w:World):Prop:=Lib.TabIs Tryz.prog w "internal/strconv.uint64pow10" .u64 Lib.pow10Tab
theorem G6:Tryz.prog.globalNamed "internal/strconv.uint64pow10" =some 3:=by kernel_rfl
theorem pow_of {W:World} {l:List (String×DataW Unit)} (h:laidMet Tryz.prog l W) (hm:("internal/strconv.uint64pow10",Lib.tabData .u64 Lib.pow10Tab) ∈ l):Pow W:=by
 obtain⟨g',t',cs,fuel,p,hg',ht',hvar,hd⟩:=Lib.laidMet.reads h hm
 obtain rfl:=Option.some.inj (G6.symm.trans hg')
 obtain rfl:=Option.some.inj ((show(Tryz.prog.globals[3]?).map (·.type)=some 338 by kernel_rfl).symm.trans ht')
 show World.var? _ _ _=_
 rw[hvar,←Lib.cells_of_tab (k:=.u64) (zs:=Lib.pow10Tab) Tryz.underlying338 Tryz.underlying78 (by kernel_rfl) (by kernel_rfl) hd]
theorem Pow.below {w w':World} (h:Pow w) (hb:Below w.heap.size w w'):Pow w':=Joins.tab_stays G6 h hb (Nat.le_refl _)
theorem below_grow (w:World) (k:Nat) (os:Array Obj):Below w.heap.size w (Sort.grow (w.drewN k) os):=
 ⟨rfl,rfl,rfl,by rw[Sort.size_grow];exact Nat.le_add_right _ _,fun g hg=>by
  show(w.heap++os)[g]?=w.heap[g]?
  rw[Array.getElem?_append_left hg]⟩
theorem ami (n:Nat):Lib.itoa (n:Int)=Lib.decDigits n:=by unfold Lib.itoa;rw[if_neg (by omega)];simp
theorem I4 (n:Nat) (hn:n≤9223372036854775807) (w:World) (hT:Pow w):
  Calls Tryz.prog 159 #[.int .i64 (n:Int)] w fun e w'=>e=.returned (.string (strOf (Lib.decDigits n)))∧Below w.heap.size w w':=
 (Tryz.strconv_Itoa (n:Int) (by omega) (by omega) w hT).mono fun e w' ⟨he,k,os,hw⟩=>⟨by rw[he,ami];rfl,by rw[hw];exact below_grow w k os⟩
end Go.Proofs.YtgamccijegollaaGreatDoor.Tab
namespace Go.Proofs.YtgamccijegollaaGreatDoor.Gl
open Go.RowKit Base Dp dI oO Zx acN BH
theorem uX (k:Nat):∀n,n<10^(k+1)→(Lib.decDigits n).length≤k+1:=by
 induction k with
 |zero=>intro n h;rw[Lib.decDigits,dif_pos (by omega)];simp
 |succ k ih=>
  intro n h
  rw[Lib.decDigits]
  split
  ·simp
  have:=ih (n / 10) (by rw[Nat.pow_succ]at h;omega)
  rw[List.length_append]
  simp
  omega
def p1 (n:Nat):List UInt8:=Lib.decDigits (n / 16777216)++[46]
def p2 (n:Nat):List UInt8:=p1 n++Lib.decDigits (n / 65536%256)++[46]
def p3 (n:Nat):List UInt8:=p2 n++Lib.decDigits (n / 256%256)++[46]
def pr (n:Nat):List UInt8:=p3 n++Lib.decDigits (n%256)
theorem I5 (n:Nat) (h:n<256):(Lib.decDigits n).length≤3:=uX 2 n (by omega)
theorem ad5 (n:Nat) (h:n<4294967296):(p1 n).length≤4:=by have:=I5 (n / 16777216) (by omega);simp[p1];omega
theorem ad6 (n:Nat) (h:n<4294967296):(p2 n).length≤8:=by have:=I5 (n / 65536%256) (by omega);have:=ad5 n h;simp[p2];omega
theorem ad7 (n:Nat) (h:n<4294967296):(p3 n).length≤12:=by have:=I5 (n / 256%256) (by omega);have:=ad6 n h;simp[p3];omega
theorem pr_len (n:Nat) (h:n<4294967296):(pr n).length≤15:=by have:=I5 (n%256) (by omega);have:=ad7 n h;simp[pr];omega
theorem Xe (a:Nat) (h:a<4294967296):bits .and .u32 (a:Int) 255=((a%256:Nat):Int):=by
 have:=u32_and_nat a 255 h (by omega)
 rw[show((255:Nat):Int)=255 from rfl]at this
 rw[this]
 congr 1
 exact Nat.and_two_pow_sub_one_eq_mod a 8
def pj (n:Nat):Nat→List UInt8
 |0=>[]
 |1=>p1 n
 |2=>p2 n
 |3=>p3 n
 |_=>pr n
theorem print_any (n:Nat) (hn:n<4294967296) (w:World) (hT:Tab.Pow w):Calls Tryz.prog 306 #[.int .u32 (n:Int)] w fun e w'=>e=.returned (.string (strOf (pr n)))∧Below w.heap.size w w':=by
 have HT:=hid hT
 have hni:(n:Int)<4294967296:=by omega
 have hn0:0≤(n:Int):=by omega
 have vW:Hid ((p1 n).length≤4∧(p2 n).length≤8∧(p3 n).length≤12):=⟨ad5 n hn,ad6 n hn,ad7 n hn⟩
 clear hT
 go_enter Tryz.func306,Tryz.ntmps306
 go_wp2
 go_loopw [3,4] (fun vo vs wr=>∃j:Nat,j≤4∧vo=.string (strOf (pj n j))∧vs=.int .i64 (24 - 8*(j:Int))∧Hid (Below w.heap.size w wr)) (fun _ vs _=>(intOf vs+8).toNat)
 case atStart=>exact⟨0,by omega,rfl,rfl,Below.refl _ _⟩
 case round=>
  obtain⟨j,hj,rfl,rfl,HB⟩:=hrel
  have hj5:j=0∨j=1∨j=2∨j=3∨j=4:=by omega
  rcases hj5 with rfl|rfl|rfl|rfl|rfl
  ·obtain⟨b,hb⟩:∃b,b=n / 16777216:=⟨_,rfl⟩
   have hb256:b<256:=by omega
   obtain⟨a,ha⟩:∃a,a=n / 16777216:=⟨_,rfl⟩
   have hal:a<4294967296:=by omega
   have hsh:(n:Int) / 16777216=(a:Int):=by omega
   have hand:bits .and .u32 (a:Int) 255=(b:Int):=by rw[Xe a hal];omega
   have hbl:=I5 b hb256
   have Z4:=hid hbl
   have Bd:=hid hb
   have hai:(a:Int)<4294967296:=by omega
   have hbi:(b:Int)<256:=by omega
   have a1:∀w:World,(Op.stringOp .add (strOf (pj n 0)) (strOf (Lib.decDigits b))).run Tryz.prog w=.ok (.string (strOf (pj n 0++Lib.decDigits b))) w:=fun w=>aci _ _ w (by have h1:=vW.out;have h2:=Z4.out;simp only[pj]at h1⊢;simp;omega)
   have a2:∀w:World,(Op.stringOp .add (strOf (pj n 0++Lib.decDigits b)) ⟨#[46]⟩).run Tryz.prog w=.ok (.string (strOf (pj n 1))) w:=fun w=>by
    have e:pj n 1=pj n 0++Lib.decDigits b++[46]:=by rw[Bd.out];rfl
    rw[e]
    exact aci _ [46] w (by have h1:=vW.out;have h2:=Z4.out;simp only[pj]at h1⊢;simp;omega)
   clear hb ha hal hbl
   generalize hX:strOf (pj n 0)=X at a1⊢
   generalize hY:strOf (Lib.decDigits b)=Y at a1
   generalize hZ:strOf (pj n 0++Lib.decDigits b)=Z at a1 a2
   generalize hV:strOf (pj n 1)=V at a2
   have kU:=hid hY
   have HXX:=hid hX
   have HZZ:=hid hZ
   have HVV:=hid hV
   clear hV
   clear hX hY hZ
   go_wp2_with fail
   refine(Tab.I4 b (by omega) _ (HT.out.below HB.out)).mono ?_
   rw[kU.out]
   rintro e w2 ⟨rfl,hb2⟩
   have HB2:Hid (Below w.heap.size w w2):=bel HB.out hb2
   clear hb2
   go_wp2
   go_roundw
   case rel=>exact⟨1,by omega,by rw[HVV.out],rfl,HB2⟩
   case measure=>simp[intOf]
  ·obtain⟨b,hb⟩:∃b,b=n / 65536%256:=⟨_,rfl⟩
   have hb256:b<256:=by omega
   obtain⟨a,ha⟩:∃a,a=n / 65536:=⟨_,rfl⟩
   have hal:a<4294967296:=by omega
   have hsh:(n:Int) / 65536=(a:Int):=by omega
   have hand:bits .and .u32 (a:Int) 255=(b:Int):=by rw[Xe a hal];omega
   have hbl:=I5 b hb256
   have Z4:=hid hbl
   have Bd:=hid hb
   have hai:(a:Int)<4294967296:=by omega
   have hbi:(b:Int)<256:=by omega
   have a1:∀w:World,(Op.stringOp .add (strOf (pj n 1)) (strOf (Lib.decDigits b))).run Tryz.prog w=.ok (.string (strOf (pj n 1++Lib.decDigits b))) w:=fun w=>aci _ _ w (by have h1:=vW.out;have h2:=Z4.out;simp only[pj]at h1⊢;simp;omega)
   have a2:∀w:World,(Op.stringOp .add (strOf (pj n 1++Lib.decDigits b)) ⟨#[46]⟩).run Tryz.prog w=.ok (.string (strOf (pj n 2))) w:=fun w=>by
    have e:pj n 2=pj n 1++Lib.decDigits b++[46]:=by rw[Bd.out];rfl
    rw[e]
    exact aci _ [46] w (by have h1:=vW.out;have h2:=Z4.out;simp only[pj]at h1⊢;simp;omega)
   clear hb ha hal hbl
   generalize hX:strOf (pj n 1)=X at a1⊢
   generalize hY:strOf (Lib.decDigits b)=Y at a1
   generalize hZ:strOf (pj n 1++Lib.decDigits b)=Z at a1 a2
   generalize hV:strOf (pj n 2)=V at a2
   have kU:=hid hY
   have HXX:=hid hX
   have HZZ:=hid hZ
   have HVV:=hid hV
   clear hV
   clear hX hY hZ
   go_wp2_with fail
   refine(Tab.I4 b (by omega) _ (HT.out.below HB.out)).mono ?_
   rw[kU.out]
   rintro e w2 ⟨rfl,hb2⟩
   have HB2:Hid (Below w.heap.size w w2):=bel HB.out hb2
   clear hb2
   go_wp2
   go_roundw
   case rel=>exact⟨2,by omega,by rw[HVV.out],rfl,HB2⟩
   case measure=>simp[intOf]
  ·obtain⟨b,hb⟩:∃b,b=n / 256%256:=⟨_,rfl⟩
   have hb256:b<256:=by omega
   obtain⟨a,ha⟩:∃a,a=n / 256:=⟨_,rfl⟩
   have hal:a<4294967296:=by omega
   have hsh:(n:Int) / 256=(a:Int):=by omega
   have hand:bits .and .u32 (a:Int) 255=(b:Int):=by rw[Xe a hal];omega
   have hbl:=I5 b hb256
   have Z4:=hid hbl
   have Bd:=hid hb
   have hai:(a:Int)<4294967296:=by omega
   have hbi:(b:Int)<256:=by omega
   have a1:∀w:World,(Op.stringOp .add (strOf (pj n 2)) (strOf (Lib.decDigits b))).run Tryz.prog w=.ok (.string (strOf (pj n 2++Lib.decDigits b))) w:=fun w=>aci _ _ w (by have h1:=vW.out;have h2:=Z4.out;simp only[pj]at h1⊢;simp;omega)
   have a2:∀w:World,(Op.stringOp .add (strOf (pj n 2++Lib.decDigits b)) ⟨#[46]⟩).run Tryz.prog w=.ok (.string (strOf (pj n 3))) w:=fun w=>by
    have e:pj n 3=pj n 2++Lib.decDigits b++[46]:=by rw[Bd.out];rfl
    rw[e]
    exact aci _ [46] w (by have h1:=vW.out;have h2:=Z4.out;simp only[pj]at h1⊢;simp;omega)
   clear hb ha hal hbl
   generalize hX:strOf (pj n 2)=X at a1⊢
   generalize hY:strOf (Lib.decDigits b)=Y at a1
   generalize hZ:strOf (pj n 2++Lib.decDigits b)=Z at a1 a2
   generalize hV:strOf (pj n 3)=V at a2
   have kU:=hid hY
   have HXX:=hid hX
   have HZZ:=hid hZ
   have HVV:=hid hV
   clear hV
   clear hX hY hZ
   go_wp2_with fail
   refine(Tab.I4 b (by omega) _ (HT.out.below HB.out)).mono ?_
   rw[kU.out]
   rintro e w2 ⟨rfl,hb2⟩
   have HB2:Hid (Below w.heap.size w w2):=bel HB.out hb2
   clear hb2
   go_wp2
   go_roundw
   case rel=>exact⟨3,by omega,by rw[HVV.out],rfl,HB2⟩
   case measure=>simp[intOf]
  ·obtain⟨b,hb⟩:∃b,b=n%256:=⟨_,rfl⟩
   have hb256:b<256:=by omega
   obtain⟨a,ha⟩:∃a,a=n:=⟨_,rfl⟩
   have hal:a<4294967296:=by omega
   have hsh:(n:Int) / 1=(a:Int):=by omega
   have hand:bits .and .u32 (a:Int) 255=(b:Int):=by rw[Xe a hal];omega
   have hbl:=I5 b hb256
   have Z4:=hid hbl
   have Bd:=hid hb
   have hai:(a:Int)<4294967296:=by omega
   have hbi:(b:Int)<256:=by omega
   have a1:∀w:World,(Op.stringOp .add (strOf (pj n 3)) (strOf (Lib.decDigits b))).run Tryz.prog w=.ok (.string (strOf (pj n 3++Lib.decDigits b))) w:=fun w=>aci _ _ w (by have h1:=vW.out;have h2:=Z4.out;simp only[pj]at h1⊢;simp;omega)
   have aeX:Hid (pj n 3++Lib.decDigits b=pj n 4):=by show _=_;rw[Bd.out];rfl
   clear hb ha hal hbl
   generalize hX:strOf (pj n 3)=X at a1⊢
   generalize hY:strOf (Lib.decDigits b)=Y at a1
   generalize hZ:strOf (pj n 3++Lib.decDigits b)=Z at a1
   have kU:=hid hY
   have HXX:=hid hX
   have HZZ:=hid hZ
   clear hX hY hZ
   go_wp2_with fail
   refine(Tab.I4 b (by omega) _ (HT.out.below HB.out)).mono ?_
   rw[kU.out]
   rintro e w2 ⟨rfl,hb2⟩
   have HB2:Hid (Below w.heap.size w w2):=bel HB.out hb2
   clear hb2
   go_wp2
   go_roundw
   case rel=>exact⟨4,by omega,by rw[←HZZ.out,aeX.out],rfl,HB2⟩
   case measure=>simp[intOf]
  go_wp2
  go_ret
  exact⟨rfl,HB.out⟩
end Go.Proofs.YtgamccijegollaaGreatDoor.Gl
namespace Go.Proofs.YtgamccijegollaaGreatDoor.zD
open Go.RowKit Base
def P1 (c:Int):Prop:=c=32∨c=34∨c=60∨c=62∨c=96
instance (c:Int):Decidable (P1 c):=by unfold P1;exact inferInstance
def P2 (c:Int):Prop:=c=32∨c=34∨c=35∨c=60∨c=62
instance (c:Int):Decidable (P2 c):=by unfold P2;exact inferInstance
def P3 (c:Int):Prop:=c=32∨c=34∨c=35∨c=60∨c=62∨c=39
instance (c:Int):Decidable (P3 c):=by unfold P3;exact inferInstance
def P4 (c:Int):Prop:=c=32∨c=34∨c=35∨c=60∨c=62∨c=63∨c=94∨c=96∨c=123∨c=125
instance (c:Int):Decidable (P4 c):=by unfold P4;exact inferInstance
def P5 (c:Int):Prop:=c=32∨c=34∨c=35∨c=60∨c=62∨c=63∨c=94∨c=96∨c=123∨c=125∨c=47∨c=58∨c=59∨c=61∨c=64∨c=91∨c=92∨c=93∨c=124
instance (c:Int):Decidable (P5 c):=by unfold P5;exact inferInstance
def P6 (c:Int):Prop:=c=32∨c=34∨c=35∨c=60∨c=62∨c=63∨c=94∨c=96∨c=123∨c=125∨c=47∨c=58∨c=59∨c=61∨c=64∨c=91∨c=92∨c=93∨c=124∨c=36∨c=37∨c=38∨c=43∨c=44
instance (c:Int):Decidable (P6 c):=by unfold P6;exact inferInstance
def ji (k c:Int):Bool:=decide (0≤k∧k≤6∧(c<32∨126<c∨k=1∧P1 c∨k=2∧P2 c∨k=3∧P3 c∨k=4∧P4 c∨k=5∧P5 c∨k=6∧P6 c))
def S:Int→List UInt8
 |1=>[32,34,60,62,96]
 |2=>[32,34,35,60,62]
 |3=>[32,34,35,60,62,39]
 |4=>[32,34,35,60,62,63,94,96,123,125]
 |5=>[32,34,35,60,62,63,94,96,123,125,47,58,59,61,64,91,92,93,124]
 |6=>[32,34,35,60,62,63,94,96,123,125,47,58,59,61,64,91,92,93,124,36,37,38,43,44]
 |_=>[]
theorem S_in (k:Int) (hk:0≤k∧k≤6) (c:UInt8) (h1:32≤(c.toNat:Int)) (h2:(c.toNat:Int)≤126):decide (0≤Lib.indexByte (S k) c)=ji k c.toNat:=by
 obtain⟨ha,hb⟩:=hk
 have hcase:k=0∨k=1∨k=2∨k=3∨k=4∨k=5∨k=6:=by omega
 have H:∀n:Fin 256,(32≤n.val∧n.val≤126)→∀k:Fin 7,decide (0≤Lib.indexByte (S (k.val:Int)) (UInt8.ofNat n.val))=ji (k.val:Int) (n.val:Int):=by decide+kernel
 have hn:=H ⟨c.toNat,c.toNat_lt⟩ ⟨by simp;omega,by simp;omega⟩ ⟨k.toNat,by omega⟩
 simpa[Int.toNat_of_nonneg ha]using hn
theorem Oc (k:Int) (c:Int) (h:k<0∨6<k):ji k c=false:=by unfold ji;rw[decide_eq_false_iff_not];omega
theorem afG (k:Int) (c:Int) (h1:0≤k) (h2:k≤6) (h:c<32∨126<c):ji k c=true:=by unfold ji;rw[decide_eq_true_iff];omega
theorem Ui (k:Int) (w:World) (h0:0≤k) (h1:k≤6):Calls Tryz.prog 285 #[.int .i64 k] w fun e w'=>e=.returned (.string (strOf (S k)))∧w=w':=by
 have hcase:k=0∨k=1∨k=2∨k=3∨k=4∨k=5∨k=6:=by omega
 rcases hcase with rfl|rfl|rfl|rfl|rfl|rfl|rfl
 all_goals
  go_enter Tryz.func285,Tryz.ntmps285
  go_wp2
  go_ret
  exact⟨rfl,rfl⟩
theorem amc (k:Int) (c:UInt8) (w:World):Calls Tryz.prog 230 #[.int .i64 k,.int .u8 (c.toNat:Int)] w fun e w'=>e=.returned (.bool (ji k c.toNat))∧w=w':=by
 by_cases ho:k<0∨6<k
 ·have HE:=hid (Oc k c.toNat ho)
  rcases ho with ho|ho
  all_goals
   go_enter Tryz.func230,Tryz.ntmps230
   go_wp2
   go_ret
   rw[HE.out]
   exact⟨rfl,rfl⟩
 have h0:0≤k:=by omega
 have h1:k≤6:=by omega
 clear ho
 by_cases hf:(c.toNat:Int)<32∨126<(c.toNat:Int)
 ·have HE:=hid (afG k c.toNat h0 h1 hf)
  rcases hf with hf|hf
  ·go_enter Tryz.func230,Tryz.ntmps230
   go_wp2
   go_ret
   rw[HE.out]
   exact⟨rfl,rfl⟩
  have hg:¬(c.toNat:Int)<32:=by omega
  go_enter Tryz.func230,Tryz.ntmps230
  go_wp2
  go_ret
  rw[HE.out]
  exact⟨rfl,rfl⟩
 have h2:32≤(c.toNat:Int):=by omega
 have h3:(c.toNat:Int)≤126:=by omega
 clear hf
 have HE:=hid (S_in k ⟨h0,h1⟩ c h2 h3)
 go_enter Tryz.func230,Tryz.ntmps230
 go_wp2_with fail
 refine(Ui k _ h0 h1).mono ?_
 rintro e w1 ⟨rfl,rfl⟩
 go_wp2_with fail
 refine(Tryz.strings_IndexByte _ _ _).mono ?_
 rintro e w1 ⟨rfl,rfl⟩
 rw[show(strOf (S k)).data.toList=S k from rfl,show((c.toNat:Int).toNat).toUInt8=c by simp]
 go_wp2_with fail
 go_ret
 exact⟨ak (by rw[←HE.out,decide_eq_false (show ¬(c.toNat:Int)<32 by omega),decide_eq_false (show ¬126<(c.toNat:Int)by omega)];simp),rfl⟩
end Go.Proofs.YtgamccijegollaaGreatDoor.zD
namespace Go.Proofs.YtgamccijegollaaGreatDoor.FM
open Go.RowKit Base zD
def jR (n:Nat):UInt8:=if n<10 then UInt8.ofNat (48+n)else UInt8.ofNat (55+n)
def one (k:Int) (c:UInt8):List UInt8:=if ji k c.toNat=true then[37,jR (c.toNat / 16),jR (c.toNat%16)]else[c]
def enc (k:Int) (L:List UInt8):List UInt8:=L.flatMap (one k)
theorem rM (k:Int) (L:List UInt8) (c:UInt8):enc k (L++[c])=enc k L++one k c:=by simp[enc]
theorem Oj (k:Int) (c:UInt8):1≤(one k c).length∧(one k c).length≤3:=by unfold one;split<;>simp
theorem iW (k:Int) (L:List UInt8):(enc k L).length≤3*L.length:=by
 induction L with
 |nil=>simp[enc]
 |cons c L ih=>
  have h:=Oj k c
  have e:enc k (c::L)=one k c++enc k L:=by simp[enc]
  rw[e,List.length_append,List.length_cons]
  omega
theorem zV (k:Nat) (h:k<(⟨#[48,49,50,51,52,53,54,55,56,57,65,66,67,68,69,70]⟩:ByteArray).size):(⟨#[48,49,50,51,52,53,54,55,56,57,65,66,67,68,69,70]⟩:ByteArray)[k]'h=jR k:=by
 have h':k<16:=h
 have hcase:k=0∨k=1∨k=2∨k=3∨k=4∨k=5∨k=6∨k=7∨k=8∨k=9∨k=10∨k=11∨k=12∨k=13∨k=14∨k=15:=by omega
 rcases hcase with rfl|rfl|rfl|rfl|rfl|rfl|rfl|rfl|rfl|rfl|rfl|rfl|rfl|rfl|rfl|rfl<;>rfl
theorem LX (a b c:Int):∀u ∈ [Value.int .u8 a,Value.int .u8 b,Value.int .u8 c],u.oneCell'=true:=by
 intro u hu
 simp at hu
 rcases hu with rfl|rfl|rfl<;>rfl
attribute [local go_sem ↓] Go.wp_at_zero Go.wp_at_succ
theorem eF (k : Int) (A : Option Addr) (n cap : Nat) (L : List UInt8) (w : World) (h : aY w A n (ah L)) (hm : n ≤ 1073741824) :
  Calls Tryz.prog 123 #[.int .i64 k,.slice A n cap] w fun e w'=>e=.returned (.string (strOf (enc k L)))∧Below w.heap.size w w':=by
 have hl:L.length=n:=by rw[←aI];exact h.1
 have HL:=hid hl
 clear hl
 obtain⟨i0,hi,hz0,hz1,hz2⟩:=info_parts iR
 have HH:=hid h
 clear h
 go_enter Tryz.func123,Tryz.ntmps123
 go_wp2_with (at_make;refine wpList_make_own _ rfl _ _ 45 rfl w.heap.size 5 i0 (.int .u8 0) 1 Tryz.underlying45 hi hz0 hz1 .i64 .i64 _ n rfl rfl rfl (by rw[hz2];omega) (by unfold maxLen;omega) (Nat.le_refl _) ?_)
 intro w1 hown1 hg1
 have gW:Below w.heap.size w w1:=(Below.refl _ _).grown hg1 (Nat.le_refl _) (by intro k h;cases h)
 clear hg1
 go_wp2
 go_loopw [5,13] (fun v vk wr=>∃(j:Nat),j≤n∧vk=.int .i64 j∧wr.ownsRow w.heap.size 5 1 v (enc k (L.take j)).length (ah (enc k (L.take j)))∧Below w.heap.size w wr) (fun _ vk _=>n - (intOf vk).toNat)
 case atStart=>exact⟨0,Nat.zero_le _,rfl,hown1,gW⟩
 case round=>
  clear hown1 gW
  obtain⟨j,hj,rfl,hown,hbel⟩:=hrel
  by_cases hlt:j<n
  ·obtain ⟨b,off,rfl,hb,_⟩:=(HH.out).spot (by omega)
   obtain⟨c,hx⟩:∃c,c=L[j]'(by rw[HL.out];exact hlt):=⟨_,rfl⟩
   have hcell:wr.cell? ⟨b,off+j,none⟩=some (.int .u8 (c.toNat:Int)):=by
    rw[hx,←HH.out.byte j (by rw[HL.out];exact hlt)]
    exact hbel.cell (p:=⟨b,off+j,none⟩) hb
   have HS:Hid (L.take (j+1)=L.take j++[c]):=by
    rw[hx]
    exact List.take_succ_eq_append_getElem (by rw[HL.out];exact hlt)
   clear hx
   have hle:=iW k (L.take j)
   have hle2:(L.take j).length≤j:=List.length_take_le _ _
   obtain⟨m,hmm⟩:∃m,m=(enc k (L.take j)).length:=⟨_,rfl⟩
   rw[←hmm]at hle hown
   have HM:=hid hmm
   clear hmm
   have hc0:(c.toNat:Int)<256:=by have:=c.toNat_lt;omega
   cases hin:ji k c.toNat
   ·have HI:=hid hin
    clear hin
    go_wp2_with fail
    refine(amc _ _ _).mono ?_
    rintro e w2 ⟨rfl,rfl⟩
    rw[HI.out]
    go_wp2_with (at_builtin;refine aQ rfl _ _ 45 rfl w.heap.size 5 i0 (.int .u8 0) 1 Tryz.underlying45 hi hz0 hz1 hz2 rfl _ m _ rfl hown hbel hbel.size [.int .u8 (c.toNat:Int)] 1 rfl rfl (by intro u hu;simp at hu;subst hu;rfl) (by unfold maxLen;omega) (by omega) ?_)
    intro v' w2 hown2 dZ
    clear hown hbel
    go_wp2
    go_roundw
    case rel=>exact⟨j+1,by omega,by go_num,by
      have e1:one k c=[c]:=by unfold one;rw[HI.out];rfl
      rw[HS.out,rM,e1,List.length_append,aS,←HM.out]
      exact hown2,dZ⟩
    case measure=>simp[intOf];omega
   ·have HI:=hid hin
    clear hin
    go_wp2_with fail
    refine(amc _ _ _).mono ?_
    rintro e w2 ⟨rfl,rfl⟩
    rw[HI.out]
    go_wp2
    have q1:(0:Int)≤(c.toNat:Int) / 16:=by omega
    have q2:(c.toNat:Int) / 16<16:=by omega
    have q3:(0:Int)≤(c.toNat:Int)%16:=by omega
    have q4:(c.toNat:Int)%16<16:=by omega
    have q5:=PE c
    have q6:∀h,(⟨#[48,49,50,51,52,53,54,55,56,57,65,66,67,68,69,70]⟩:ByteArray)[((c.toNat:Int) / 16).toNat]'h=jR (c.toNat / 16):=fun h=>zV _ h
    have q7:∀h,(⟨#[48,49,50,51,52,53,54,55,56,57,65,66,67,68,69,70]⟩:ByteArray)[((c.toNat:Int)%16).toNat]'h=jR (c.toNat%16):=fun h=>zV _ h
    go_region_held3 (fun _=>True) (trivial) ((refine RS (by rfl) _ _ 45 (by rfl) w.heap.size 5 i0 (.int .u8 0) 1 Tryz.underlying45 hi hz0 hz1 hz2 (by rfl) _ m _ (by rfl) hown hbel hbel.size [.int .u8 37,.int .u8 ((jR (c.toNat / 16)).toNat:Int),.int .u8 ((jR (c.toNat%16)).toNat:Int)] 3 (by rfl) (by decide) (by rfl) (LX _ _ _) (by unfold maxLen;omega) (by omega) ⟨(Below.refl _ _).drew,fun _=>rfl,by simp⟩ ?_;intro v' w2 hown2 dZ))
    all_goals
     clear hown hbel q1 q2 q3 q4 q5 q6 q7
     go_wp2
     go_roundw
     case rel=>exact⟨j+1,by omega,by go_num,by
       have e1:one k c=[37,jR (c.toNat / 16),jR (c.toNat%16)]:=by unfold one;rw[if_pos HI.out]
       rw[HS.out,rM,e1,List.length_append,aS,←HM.out]
       exact hown2,dZ⟩
     case measure=>simp[intOf];omega
  ·obtain rfl:j=n:=by omega
   have HE:Hid (L.take j=L):=by
    rw[←HL.out];exact List.take_length
   rw[HE.out]at hown
   obtain⟨A',c',rfl,_,_,hrd⟩:=aJ hown
   have hst:=aF 45 9 5 Tryz.underlying45 Tryz.underlying5 Tryz.underlying9 _ c' hrd
   go_wp2
   go_ret
   exact⟨rfl,hbel⟩
end Go.Proofs.YtgamccijegollaaGreatDoor.FM
namespace Go.Proofs.YtgamccijegollaaGreatDoor.fU
open Go.RowKit Base dI
def esc:List UInt8→Option UInt8
 |a::b::c::_=>if a=37∧0≤hex b.toNat∧0≤hex c.toNat then some (UInt8.ofNat (16*hex b.toNat+hex c.toNat).toNat)else none
 |_=>none
def xI:Nat→List UInt8→List UInt8
 |0,_=>[]
 |_+1,[]=>[]
 |n+1,x::t=>match esc (x::t)with
  |some c=>c::xI n (t.drop 2)
  |none=>x::xI n t
def dec (L:List UInt8):List UInt8:=xI L.length L
theorem uy:∀(n m:Nat) (L:List UInt8),L.length≤n→L.length≤m→xI n L=xI m L
 |0,0,_,_,_=>rfl
 |0,m+1,[],_,_=>rfl
 |0,_+1,_::_,h,_=>by simp at h
 |n+1,0,[],_,_=>rfl
 |_+1,0,_::_,_,h=>by simp at h
 |_+1,_+1,[],_,_=>rfl
 |n+1,m+1,x::t,h1,h2=>by
  simp only[List.length_cons]at h1 h2
  rw[xI,xI,uy n m _ (by simp;omega) (by simp;omega),uy n m _ (by omega) (by omega)]
theorem lT:dec []=[]:=rfl
theorem oQ (x:UInt8) (t:List UInt8) (c:UInt8) (h:esc (x::t)=some c):dec (x::t)=c::dec (t.drop 2):=by
 unfold dec
 rw[List.length_cons,xI,h]
 rw[uy t.length (t.drop 2).length _ (by simp) (Nat.le_refl _)]
theorem kJ (x:UInt8) (t:List UInt8) (h:esc (x::t)=none):dec (x::t)=x::dec t:=by
 unfold dec
 rw[List.length_cons,xI,h]
theorem ku (L:List UInt8):(dec L).length≤L.length:=by
 have H : ∀ (n : Nat) (L : List UInt8), (xI n L).length ≤ L.length := by
  intro n
  induction n with
  |zero=>intro L;simp[xI]
  | succ n ih=>
   intro L
   cases L with
   |nil=>simp[xI]
   |cons x t=>
    rw[xI]
    split
    ·have:=ih (t.drop 2)
     simp at this⊢
     omega
    have:=ih t
    simp at this⊢
    omega
 exact H _ _
theorem vG (c:UInt8): -1≤hex c.toNat∧hex c.toNat≤15:=by
 unfold hex
 (repeat' split)<;>omega
attribute [local go_sem ↓] Go.wp_at_zero Go.wp_at_succ
def FB (L:List UInt8):Value×Bool:=match esc L with
 |some c=>(.int .u8 (c.toNat:Int),true)
 |none=>(.int .u8 0,false)
theorem Vb (s:ByteArray) (h:s.size<3):esc s.data.toList=none:=by
 have hl:s.data.toList.length<3:=by rw[Array.length_toList];exact h
 match e:s.data.toList,hl with
 |[],_=>rfl
 |[_],_=>rfl
 |[_,_],_=>rfl
theorem alo (s:ByteArray) (h:3≤s.size):∃t,s.data.toList=s[0]::s[1]::s[2]::t:=by
 have hl:3≤s.data.toList.length:=by rw[Array.length_toList];exact h
 match e:s.data.toList,hl with
 |a::b::c::t,_=>
  have e0:s[0]=a:=by
   have:s.data.toList[0]'(by omega)=a:=by simp[e]
   exact this
  have e1:s[1]=b:=by
   have:s.data.toList[1]'(by omega)=b:=by simp[e]
   exact this
  have e2:s[2]=c:=by
   have:s.data.toList[2]'(by omega)=c:=by simp[e]
   exact this
  exact⟨t,by rw[e0,e1,e2]⟩
theorem u8_of (z:Int) (h0:0≤z) (h1:z≤255):((UInt8.ofNat z.toNat).toNat:Int)=z:=by simp;omega
theorem or16 (h l:Int) (h0:0≤h) (h1:h≤15) (l0:0≤l) (l1:l≤15):bits .or .i64 (h*16) l=16*h+l:=by
 have H:∀a b:Fin 16,bits .or .i64 ((a.val:Int)*16) (b.val:Int)=16*(a.val:Int)+(b.val:Int):=by decide+kernel
 have:=H ⟨h.toNat,by omega⟩ ⟨l.toNat,by omega⟩
 simp only[Int.toNat_of_nonneg h0,Int.toNat_of_nonneg l0]at this
 exact this
theorem hexq (c:Int) (w:World) (h0:0≤c) (h1:c≤255):Calls Tryz.prog 256 #[.int .u8 c] w fun e w'=>e=.returned (.int .i64 (hex c))∧w'=w:=
 (dV c w h0 h1).mono fun _ _ ⟨he,hw⟩=>⟨he,hw.symm⟩
theorem wM (s:ByteArray) (w:World) (hs:s.size≤maxLen):Calls Tryz.prog 170 #[.string s] w fun e w'=>e=.returned (.tuple #[(FB s.data.toList).1,.bool (FB s.data.toList).2])∧Below w.heap.size w w':=by
 unfold maxLen at hs
 by_cases h3:s.size<3
 ·have HE:Hid (FB s.data.toList=(.int .u8 0,false)):=by unfold FB;rw[Vb s h3];exact rfl
  have h3':(s.size:Int)<3:=by omega
  go_enter Tryz.func170,Tryz.ntmps170
  go_wp2
  go_ret2
  rw[HE.out]
  exact⟨rfl,Below.refl _ _⟩
 have h3':(3:Int)≤(s.size:Int):=by omega
 obtain⟨t,ht⟩:=alo s (by omega)
 obtain⟨a,ha⟩:∃a,s[0]=a:=⟨_,rfl⟩
 obtain⟨b,hb⟩:∃b,s[1]=b:=⟨_,rfl⟩
 obtain⟨c,hc⟩:∃c,s[2]=c:=⟨_,rfl⟩
 rw[ha,hb,hc]at ht
 have HT:=hid ht
 clear ht
 have hb0:0≤(b.toNat:Int)∧(b.toNat:Int)≤255:=by have:=b.toNat_lt;omega
 have hc0:0≤(c.toNat:Int)∧(c.toNat:Int)≤255:=by have:=c.toNat_lt;omega
 by_cases h37:a=37
 ·subst h37
  have h37':(((37:UInt8).toNat:Int) !=37)=false:=by decide
  obtain⟨hx1,hx2⟩:=vG b
  obtain⟨hy1,hy2⟩:=vG c
  by_cases hx:hex b.toNat<0
  ·have HE:Hid (FB s.data.toList=(.int .u8 0,false)):=by
    unfold FB
    rw[HT.out,esc,if_neg (by intro h;omega)]
    exact rfl
   go_enter Tryz.func170,Tryz.ntmps170
   go_wp2
   go_quiet ((go_at_call 256;exact Calls.quiet_of_same (hexq _ _ (by omega) (by omega))))
   go_wp2
   go_ret2
   rw[HE.out]
   exact⟨rfl,Base.below_drewN (Below.refl _ _) _⟩
  have hx':0≤hex b.toNat:=by omega
  clear hx hx1
  by_cases hy:hex c.toNat<0
  ·have HE:Hid (FB s.data.toList=(.int .u8 0,false)):=by
    unfold FB
    rw[HT.out,esc,if_neg (by intro h;omega)]
    exact rfl
   go_enter Tryz.func170,Tryz.ntmps170
   go_wp2
   go_quiet ((go_at_call 256;exact Calls.quiet_of_same (hexq _ _ (by omega) (by omega))))
   go_wp2
   go_ret2
   rw[HE.out]
   exact⟨rfl,Base.below_drewN (Below.refl _ _) _⟩
  have hy':0≤hex c.toNat:=by omega
  clear hy hy1
  have HE:Hid (FB s.data.toList=(.int .u8 (16*hex b.toNat+hex c.toNat),true)):=by
   unfold FB
   rw[HT.out,esc,if_pos ⟨rfl,hx',hy'⟩]
   show(Value.int .u8 ((UInt8.ofNat (16*hex b.toNat+hex c.toNat).toNat).toNat:Int),true)=_
   rw[u8_of _ (by omega) (by omega)]
  have hor:=or16 _ _ hx' hx2 hy' hy2
  go_enter Tryz.func170,Tryz.ntmps170
  go_wp2
  go_quiet ((go_at_call 256;exact Calls.quiet_of_same (hexq _ _ (by omega) (by omega))))
  go_wp2
  go_ret2
  rw[HE.out]
  exact⟨vS rfl rfl,Base.below_drewN (Below.refl _ _) _⟩
 have HE:Hid (FB s.data.toList=(.int .u8 0,false)):=by
  unfold FB
  rw[HT.out,esc,if_neg (by intro h;exact h37 h.1)]
  exact rfl
 have h37':((a.toNat:Int) !=37)=true:=by
  simp
  intro h
  exact h37 (UInt8.toNat_inj.1 (by simp;omega))
 go_enter Tryz.func170,Tryz.ntmps170
 go_wp2
 go_ret2
 rw[HE.out]
 exact⟨rfl,Below.refl _ _⟩
theorem extract_drop (s:ByteArray) (k:Nat) (_h:k≤s.size):(s.extract k s.size).data.toList=s.data.toList.drop k:=by
 rw[ByteArray.data_extract]
 simp[Array.toList_extract,List.extract_eq_take_drop]
 rw[List.take_of_length_le (by rw[List.length_drop,Array.length_toList];exact Nat.le_refl _)]
theorem decode_any (s:ByteArray) (w:World) (hs:s.size≤1073741824):Calls Tryz.prog 75 #[.string s] w fun e w'=>∃v,e=.returned v∧w'.ownsRow w.heap.size 5 1 v (dec s.data.toList).length (ah (dec s.data.toList))∧Below w.heap.size w w':=by
 obtain⟨i0,hi,hz0,hz1,hz2⟩:=info_parts iR
 have hl:s.data.toList.length=s.size:=Array.length_toList
 have HL:=hid hl
 clear hl
 go_enter Tryz.func75,Tryz.ntmps75
 go_wp2_with (at_make;refine wpList_make_own _ rfl _ _ 45 rfl w.heap.size 5 i0 (.int .u8 0) 1 Tryz.underlying45 hi hz0 hz1 .i64 .i64 _ s.size rfl rfl rfl (by rw[hz2];omega) (by unfold maxLen;omega) (Nat.le_refl _) ?_)
 intro w1 hown1 hg1
 have gW:Below w.heap.size w w1:=(Below.refl _ _).grown hg1 (Nat.le_refl _) (by intro k h;cases h)
 clear hg1
 go_wp2
 go_loopw [3,4] (fun v vk wr=>∃(j:Nat) (X:List UInt8),j≤s.size∧X.length≤j∧vk=.int .i64 j∧wr.ownsRow w.heap.size 5 1 v X.length (ah X)∧Below w.heap.size w wr∧Hid (X++dec (s.data.toList.drop j)=dec s.data.toList)) (fun _ vk _=>s.size - (intOf vk).toNat)
 case atStart=>exact⟨0,[],Nat.zero_le _,Nat.le_refl _,rfl,hown1,gW,rfl⟩
 case round=>
  clear hown1 gW
  obtain⟨j,X,hj,hX,rfl,hown,hbel,HT⟩:=hrel
  by_cases hlt:j<s.size
  ·obtain ⟨x,hx⟩:∃x,s[j]=x:=⟨_,rfl⟩
   have hd:s.data.toList.drop j=x::s.data.toList.drop (j+1):=by
    rw[←hx]
    exact List.drop_eq_getElem_cons (by rw[HL.out];exact hlt)
   have HD:=hid hd
   clear hd
   have HEX:Hid ((s.extract j s.size).data.toList=s.data.toList.drop j):=extract_drop s j hj
   have hsz:(s.extract j s.size).size=s.size - j:=by simp
   have MC:=hid hsz
   clear hsz
   cases GI:esc (s.data.toList.drop j)with
   | none=>
    have HV:Hid (FB (s.extract j s.size).data.toList=(.int .u8 0,false)):=by
     unfold FB
     rw[HEX.out,GI]
     exact rfl
    have HN:Hid (dec (s.data.toList.drop j)=x::dec (s.data.toList.drop (j+1))):=by
     rw[HD.out]at GI⊢
     exact kJ _ _ GI
    clear GI
    go_wp2_with fail
    refine(wM _ _ (by rw[MC.out];unfold maxLen;omega)).mono ?_
    rintro e w2 ⟨rfl,hb2⟩
    rw[HV.out]
    have hown2:=aP hown hb2
    have dZ:=hbel.trans (hb2.mono hbel.size)
    clear hown hbel
    go_wp2_with (at_builtin;refine aQ rfl _ _ 45 rfl w.heap.size 5 i0 (.int .u8 0) 1 Tryz.underlying45 hi hz0 hz1 hz2 rfl _ X.length _ rfl hown2 dZ dZ.size [.int .u8 (x.toNat:Int)] 1 rfl rfl (by intro u hu;simp at hu;subst hu;rfl) (by unfold maxLen;omega) (by omega) ?_)
    intro v' w3 hown3 dG
    clear hown2 dZ
    go_wp2
    go_roundw
    case rel=>exact⟨j+1,X++[x],by omega,by simp;omega,by go_num,by rw[aS,List.length_append];exact hown3,dG,by
      rw[List.append_assoc]
      have:=HT.out
      rw[HN.out]at this
      exact this⟩
    case measure=>simp[intOf];omega
   | some c=>
    have h3:j+3≤s.size:=by
     rcases Nat.lt_or_ge (s.size - j) 3 with h|h
     ·have:=Vb (s.extract j s.size) (by rw[MC.out];exact h)
      rw[HEX.out,GI]at this
      cases this
     omega
    have HV:Hid (FB (s.extract j s.size).data.toList=(.int .u8 (c.toNat:Int),true)):=by
     unfold FB
     rw[HEX.out,GI]
     exact rfl
    have HN:Hid (dec (s.data.toList.drop j)=c::dec (s.data.toList.drop (j+3))):=by
     rw[HD.out]at GI⊢
     rw[oQ _ _ _ GI,List.drop_drop]
     exact rfl
    clear GI
    go_wp2_with fail
    refine(wM _ _ (by rw[MC.out];unfold maxLen;omega)).mono ?_
    rintro e w2 ⟨rfl,hb2⟩
    rw[HV.out]
    have hown2:=aP hown hb2
    have dZ:=hbel.trans (hb2.mono hbel.size)
    clear hown hbel
    go_wp2_with (at_builtin;refine aQ rfl _ _ 45 rfl w.heap.size 5 i0 (.int .u8 0) 1 Tryz.underlying45 hi hz0 hz1 hz2 rfl _ X.length _ rfl hown2 dZ dZ.size [.int .u8 (c.toNat:Int)] 1 rfl rfl (by intro u hu;simp at hu;subst hu;rfl) (by unfold maxLen;omega) (by omega) ?_)
    intro v' w3 hown3 dG
    clear hown2 dZ
    go_wp2
    go_roundw
    case rel=>exact⟨j+3,X++[c],by omega,by simp;omega,by rw[show((j+3:Nat):Int)=(j:Int)+2+1 by omega],by rw[aS,List.length_append];exact hown3,dG,by
      rw[List.append_assoc]
      have:=HT.out
      rw[HN.out]at this
      exact this⟩
    case measure=>simp[intOf];omega
  obtain rfl:j=s.size:=by omega
  have HE:Hid (X=dec s.data.toList):=by
   have e:=HT.out
   rw[←HL.out,List.drop_length,lT,List.append_nil]at e
   exact e
  go_wp2
  go_ret
  exact⟨_,rfl,by rw[←HE.out];exact hown,hbel⟩
end Go.Proofs.YtgamccijegollaaGreatDoor.fU
namespace Go.Proofs.YtgamccijegollaaGreatDoor.acJ
open Go.RowKit Base cO oO wu WU
def FRB:List UInt8:=[0,9,10,13,32,35,47,58,60,62,63,64,91,92,93,94,124]
def U1 (c:UInt8):Bool:=FRB.contains c
def JU (d:Bool) (c:UInt8):Bool:=U1 c||(d&&(decide (c.toNat<32)||(c==127||c==37)))
theorem Vd (c:UInt8):JU false c=U1 c:=by simp[JU]
def okb (d:Bool) (c:UInt8):Bool:= !(JU d c)&&(!d||decide (c.toNat≤126))
def oks (d:Bool) (L:List UInt8):Bool:=L.all (okb d)
def am8 (V:List Nat):List UInt8:=nP.prt fun i=>V.getD i 0
def addr (M:List UInt8):Option (List UInt8):=match six M with
 |none=>none
 |some V=>some (91::(am8 V++[93]))
def hbr (M:List UInt8):Option (List UInt8):=if Lib.hasSuffix M [93]=true then addr (Lib.trimSuffix M [93])else none
def XB (M:List UInt8):Option (List UInt8):=if M=[]then none else if ends M=true then(NR M).map Gl.pr else some M
def SL (L:List UInt8):Option (List UInt8):=if oks true L=true then XB (lower L)else none
def zA (s:List UInt8):Option (List UInt8):=if oks false s=true then some (FM.enc 0 s)else none
def hst (s:List UInt8) (sp:Bool):Option (List UInt8):=if s.head?=some 91 then hbr s.tail else if sp=true then SL (fU.dec s)else zA s
def HV (o:Option (List UInt8)):Value:=match o with
 |none=>.tuple #[.string (strOf []),.bool false]
 |some L=>.tuple #[.string (strOf L),.bool true]
theorem Vh (c:UInt8):decide (0≤Lib.indexByte FRB c)=U1 c:=by
 have H:∀n:Fin 256,decide (0≤Lib.indexByte FRB (UInt8.ofNat n.val))=U1 (UInt8.ofNat n.val):=by decide+kernel
 have:=H ⟨c.toNat,c.toNat_lt⟩
 simpa using this
theorem vM (c:UInt8):okb true c=(!(JU true c)&&decide (c.toNat≤126)):=by simp[okb]
theorem qX (d:Bool) (L:List UInt8) (k:Nat) (h:k<L.length):oks d (L.take (k+1))=(oks d (L.take k)&&okb d L[k]):=by
 unfold oks
 rw[List.take_succ_eq_append_getElem h,List.all_append]
 simp
theorem GU (d:Bool) (L:List UInt8) (k:Nat) (h:k<L.length) (hn:okb d L[k]=false):oks d L=false:=by
 unfold oks
 rw[List.all_eq_false]
 exact⟨L[k],List.getElem_mem h,by rw[hn];exact Bool.false_ne_true⟩
end Go.Proofs.YtgamccijegollaaGreatDoor.acJ
namespace Go.Proofs.YtgamccijegollaaGreatDoor.acA
open Go.RowKit Base cO dI
def xW (L:List UInt8):Bool:=decide (L=[46])||decide (lower L=[37,50,101])
def Bo (L:List UInt8):Bool:=decide (lower L=[46,46])||decide (lower L=[46,37,50,101])||decide (lower L=[37,50,101,46])||decide (lower L=[37,50,101,37,50,101])
def drv (L:List UInt8):Bool:=match L with
 |[a,b]=>letter (a.toNat:Int)&&(decide (b=58)||decide (b=124))
 |_=>false
def nrm (L:List UInt8):Bool:=match L with
 |[a,b]=>letter (a.toNat:Int)&&decide (b=58)
 |_=>false
def JR (L:List UInt8):Bool:=match L with
 |[a,b]=>drv [a,b]
 |a::b::c::_=>drv [a,b]&&(decide (c=47)||decide (c=92)||decide (c=63)||decide (c=35))
 |_=>false
theorem low46 (c:UInt8):low c=46↔c=46:=by
 have H:∀n:Fin 256,low (UInt8.ofNat n.val)=46↔UInt8.ofNat n.val=46:=by decide+kernel
 have:=H ⟨c.toNat,c.toNat_lt⟩
 simpa using this
theorem jg (c:UInt8) (L:List UInt8):lower (c::L)=low c::lower L:=rfl
theorem uD (L:List UInt8):lower L=[46]↔L=[46]:=by
 constructor
 ·intro h
  match L,h with
  |[c],h=>rw[jg]at h;injection h with h _;rw[(low46 c).1 h]
  |_::_::_,h=>simp[lower]at h
  |[],h=>simp[lower]at h
 rintro rfl;rfl
theorem dbl_dot (L:List UInt8):Bo (46::L)=xW L:=by
 have e:low 46=46:=rfl
 unfold Bo xW
 rw[jg,e,Bool.eq_iff_iff]
 simp[←uD L]
theorem U3 (c:UInt8) (L:List UInt8) (hc:c≠46):Bo (c::L)=(decide (3<(c::L).length)&&(xW ((c::L).take 3)&&xW ((c::L).drop 3))):=by
 have hl:low c≠46:=fun h=>hc ((low46 c).1 h)
 match L with
 |[]=>simp[Bo,lower,hl]
 |[_]=>simp[Bo,lower,hl]
 |[_,_]=>simp[Bo,lower,hl]
 |a::b::d::L=>
  unfold Bo xW
  simp only[List.take_succ_cons,List.take_zero,List.drop_succ_cons,List.drop_zero,jg,List.length_cons]
  rw[Bool.eq_iff_iff]
  simp[hl,←uD (d::L),jg,show lower ([]:List UInt8)=[]from rfl]
  constructor
  ·rintro(⟨h1,h2,h3,h4,h5⟩|⟨h1,h2,h3,h4⟩)
   ·exact⟨⟨h1,h2,h3⟩,.inl ⟨h4,h5⟩⟩
   exact⟨⟨h1,h2,h3⟩,.inr h4⟩
  rintro⟨⟨h1,h2,h3⟩,⟨h4,h5⟩|h4⟩
  ·exact .inl ⟨h1,h2,h3,h4,h5⟩
  exact .inr ⟨h1,h2,h3,h4⟩
end Go.Proofs.YtgamccijegollaaGreatDoor.acA
namespace Go.Proofs.YtgamccijegollaaGreatDoor.acL
open Go.RowKit Base Dp cO dI acA
theorem tl (s:ByteArray):s.toList=s.data.toList:=by
 obtain⟨d⟩:=s;rw[ByteArray.toList_mk]
theorem PN (s:ByteArray) (L:List UInt8):(s.toList==L)=decide (s.data.toList=L):=by
 rw[tl,Bool.eq_iff_iff];simp
theorem oz (M L:List UInt8):((strOf M).toList==L)=decide (M=L):=PN (strOf M) L
theorem kE (s:ByteArray) (w:World) (hs:s.size≤maxLen):Calls Tryz.prog 321 #[.string s] w fun e w'=>e=.returned (.bool (xW s.data.toList))∧Below w.heap.size w w':=by
 obtain⟨o,ho⟩:∃o,o=xW s.data.toList:=⟨_,rfl⟩
 rw[←ho]
 by_cases h1:s.data.toList=[46]
 ·have q1:(s.toList==[46])=true:=by rw[PN];exact decide_eq_true h1
  have HO:Hid (o=true):=by show _=_;rw[ho];unfold xW;rw[decide_eq_true h1];rfl
  clear h1 ho
  go_enter Tryz.func321,Tryz.ntmps321
  go_wp2
  go_ret
  exact⟨ak HO.out.symm,Below.refl _ _⟩
 have q1:(s.toList==[46])=false:=by rw[PN];exact decide_eq_false h1
 obtain⟨V,hV⟩:∃V,V=strOf (lower s.data.toList):=⟨_,rfl⟩
 have q2:(V.toList==[37,50,101])=o:=by rw[hV,oz,ho];unfold xW;rw[decide_eq_false h1,Bool.false_or]
 have HV:=hid hV
 have HQ:=hid q2
 clear h1 ho hV q2
 go_enter Tryz.func321,Tryz.ntmps321
 go_wp2_with fail
 refine(cO.gI s _ hs).mono ?_
 rintro e w2 ⟨rfl,hb2⟩
 rw[←HV.out]
 go_wp2
 go_ret
 exact⟨ak HQ.out,hb2⟩
end Go.Proofs.YtgamccijegollaaGreatDoor.acL
namespace Go.Proofs.YtgamccijegollaaGreatDoor.Kr
open Go.RowKit Base Dp cO dI acA acL
theorem u8_eq (c:UInt8) (n:Nat) (hn:n<256):decide (c=UInt8.ofNat n)=decide (c.toNat=n):=by
 refine decide_eq_decide.2 ⟨?_,?_⟩
 ·rintro rfl;simp;omega
 intro h;rw[←h];simp
theorem eq58 (c:UInt8):decide (c=58)=decide (c.toNat=58):=u8_eq c 58 (by omega)
theorem eq124 (c:UInt8):decide (c=124)=decide (c.toNat=124):=u8_eq c 124 (by omega)
theorem LY (s:ByteArray) (h:s.size=2):s.data.toList=[s[0]'(by omega),s[1]'(by omega)]:=by
 refine List.ext_getElem ((show s.data.toList.length=s.size from Array.length_toList).trans h) fun i h1 h2=>?_
 have:i=0∨i=1:=by simp at h2;omega
 rcases this with rfl|rfl<;>rfl
theorem Iz (L:List UInt8) (h:drv L=true):L.length=2:=by
 match L,h with
 |[_,_],_=>rfl
theorem afk (L:List UInt8) (h:L.length≠2):drv L=false:=by
 cases e:drv L with
 |false=>rfl
 |true=>exact absurd (Iz L e) h
theorem afU (L:List UInt8) (h:drv L=false):nrm L=false:=by
 match L,h with
 |[],_=>rfl
 |[_],_=>rfl
 |[a,b],h=>
  simp only[drv,nrm]at h⊢
  cases hl:letter (a.toNat:Int)with
  |false=>rfl
  |true=>
   rw[hl]at h
   simp at h
   simp[h.1]
 |_::_::_::_,_=>rfl
theorem afV (a b:UInt8) (h:drv [a,b]=true):nrm [a,b]=decide (b=58):=by
 simp only[drv,nrm,Bool.and_eq_true]at h⊢
 rw[h.1,Bool.true_and]
theorem kL (s:ByteArray) (w:World):Calls Tryz.prog 277 #[.string s] w fun e w'=>e=.returned (.bool (drv s.data.toList))∧w=w':=by
 obtain⟨o,ho⟩:∃o,o=drv s.data.toList:=⟨_,rfl⟩
 rw[←ho]
 by_cases h2:s.size=2
 ·have h0:0<s.size:=by omega
  have h1:1<s.size:=by omega
  obtain⟨a,ha⟩:∃a,s[0]=a:=⟨_,rfl⟩
  obtain⟨b,hb⟩:∃b,s[1]=b:=⟨_,rfl⟩
  have q1:((s.size:Int)==2)=true:=by simp;omega
  obtain⟨p,hp⟩:∃p,p=letter (a.toNat:Int):=⟨_,rfl⟩
  have HO:Hid (o=(p&&(decide (b.toNat=58)||decide (b.toNat=124)))):=by
   show _=_
   rw[ho,LY s h2,drv,ha,hb,hp,eq58,eq124]
  have HP:=hid hp
  have H2:=hid h2
  clear ho hp h2
  by_cases e1:b.toNat=58
  ·have q2:((b.toNat:Int)==58)=true:=by simp;omega
   have HE:Hid (o=p):=by show _=_;rw[HO.out,decide_eq_true e1];simp
   clear e1
   cases p
   all_goals
    go_enter Tryz.func277,Tryz.ntmps277
    go_wp2_with fail
    refine(dI.dN _ _).mono ?_
    rintro e w2 ⟨rfl,rfl⟩
    rw[←HP.out]
    go_wp2
    go_ret
    exact⟨ak HE.out.symm,rfl⟩
  have q2:((b.toNat:Int)==58)=false:=by simp;omega
  by_cases e2:b.toNat=124
  ·have q3:((b.toNat:Int)==124)=true:=by simp;omega
   have HE:Hid (o=p):=by show _=_;rw[HO.out,decide_eq_true e2];simp
   clear e1 e2
   cases p
   all_goals
    go_enter Tryz.func277,Tryz.ntmps277
    go_wp2_with fail
    refine(dI.dN _ _).mono ?_
    rintro e w2 ⟨rfl,rfl⟩
    rw[←HP.out]
    go_wp2
    go_ret
    exact⟨ak HE.out.symm,rfl⟩
  have q3:((b.toNat:Int)==124)=false:=by simp;omega
  have HE:Hid (o=false):=by show _=_;rw[HO.out,decide_eq_false e1,decide_eq_false e2];simp
  clear e1 e2
  cases p
  all_goals
   go_enter Tryz.func277,Tryz.ntmps277
   go_wp2_with fail
   refine(dI.dN _ _).mono ?_
   rintro e w2 ⟨rfl,rfl⟩
   rw[←HP.out]
   go_wp2
   go_ret
   exact⟨ak HE.out.symm,rfl⟩
 have q1:((s.size:Int)==2)=false:=by simp;omega
 have HE:Hid (o=false):=by show _=_;rw[ho];exact afk _ (by rw[show s.data.toList.length=s.size from Array.length_toList];exact h2)
 clear h2 ho
 go_enter Tryz.func277,Tryz.ntmps277
 go_wp2
 go_ret
 exact⟨ak HE.out.symm,rfl⟩
theorem Ah (s:ByteArray) (w:World):Calls Tryz.prog 216 #[.string s] w fun e w'=>e=.returned (.bool (nrm s.data.toList))∧w=w':=by
 obtain⟨o,ho⟩:∃o,o=nrm s.data.toList:=⟨_,rfl⟩
 rw[←ho]
 obtain⟨d,hd⟩:∃d,d=drv s.data.toList:=⟨_,rfl⟩
 have HD:=hid hd
 cases d with
 |false=>
  have HE:Hid (o=false):=by show _=_;rw[ho];exact afU _ hd.symm
  clear hd ho
  go_enter Tryz.func216,Tryz.ntmps216
  go_wp2_with fail
  refine(kL _ _).mono ?_
  rintro e w2 ⟨rfl,rfl⟩
  rw[←HD.out]
  go_wp2
  go_ret
  exact⟨ak HE.out.symm,rfl⟩
 |true=>
  have h2:s.size=2:=by
   have:=Iz _ hd.symm
   rw[show s.data.toList.length=s.size from Array.length_toList]at this
   exact this
  have h1:1<s.size:=by omega
  obtain⟨b,hb⟩:∃b,s[1]=b:=⟨_,rfl⟩
  have HE:Hid (o=decide (b.toNat=58)):=by
   show _=_
   rw[ho,←eq58]
   rw[LY s h2]at hd⊢
   rw[hb]at hd⊢
   exact afV _ _ hd.symm
  clear hd ho h2
  by_cases e1:b.toNat=58
  ·have q2:((b.toNat:Int)==58)=true:=by simp;omega
   have HF:Hid (o=true):=HE.out.trans (decide_eq_true e1)
   clear e1
   go_enter Tryz.func216,Tryz.ntmps216
   go_wp2_with fail
   refine(kL _ _).mono ?_
   rintro e w2 ⟨rfl,rfl⟩
   rw[←HD.out]
   go_wp2
   go_ret
   exact⟨ak HF.out.symm,rfl⟩
  have q2:((b.toNat:Int)==58)=false:=by simp;omega
  have HF:Hid (o=false):=HE.out.trans (decide_eq_false e1)
  clear e1
  go_enter Tryz.func216,Tryz.ntmps216
  go_wp2_with fail
  refine(kL _ _).mono ?_
  rintro e w2 ⟨rfl,rfl⟩
  rw[←HD.out]
  go_wp2
  go_ret
  exact⟨ak HF.out.symm,rfl⟩
end Go.Proofs.YtgamccijegollaaGreatDoor.Kr
