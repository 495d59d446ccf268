/- Texts that belong together: Fp, tK, Zo, WJ, sU. -/
import Derived.Test.YtgamccijegollaaGreatDoorSOAAI
import Derived.Test.YtgamccijegollaaGreatDoorSOAAD
import Derived.OwnWalk
import Derived.Test.YtgamccijegollaaGreatDoorSOAAF
import Derived.Test.YtgamccijegollaaGreatDoorSOAAC
import Derived.Test.YtgamccijegollaaGreatDoorShelf
import Derived.Laws.StructEq
import Derived.Test.YtgamccijegollaaGreatDoorSOAAE
set_option linter.unusedSimpArgs false
set_option linter.unusedVariables false
set_option maxRecDepth 100000
set_option maxHeartbeats 64000000
namespace Go.Proofs.YtgamccijegollaaGreatDoor.Fp
open Go.RowKit Base L6 Dp dI cO aco wS yw tN
theorem Xv (c k:UInt8) (h:c=k):((c.toNat:Int)==(k.toNat:Int))=true:=by rw[h];simp
theorem Xw (c k:UInt8) (h:c≠k):((c.toNat:Int)==(k.toNat:Int))=false:=by
 rw[beq_eq_false_iff_ne]
 intro e
 exact h (UInt8.toNat_inj.1 (by omega))
theorem Bq (s:ByteArray) (w:World) (hs:s.size≤1073741824):Calls Tryz.prog 226 #[.string s] w fun e w'=>e=.returned (.tuple #[.string (strOf (hap false s.data.toList).1),.string (strOf (hap false s.data.toList).2.1),.bool (hap false s.data.toList).2.2])∧Below w.heap.size w w':=by
 obtain⟨T,hT⟩:∃T,T=hap false s.data.toList:=⟨_,rfl⟩
 rw[←hT]
 have HT0:Hid (vF s.data.toList 0 false=T):=by show _=_;rw[adJ,hT]
 clear hT
 go_enter Tryz.func226,Tryz.ntmps226
 go_wp2
 go_loopw [5,6] (fun vi vk wr=>∃(k:Nat) (i:Bool),k≤s.size∧vk=.int .i64 (k:Int)∧vi=.bool i∧wr=w∧Hid (vF s.data.toList k i=T)) (fun _ vk _=>s.size - (intOf vk).toNat)
 case atStart=>exact⟨0,false,Nat.zero_le _,rfl,rfl,rfl,HT0.out⟩
 case round=>
  obtain⟨k,i,hk,rfl,rfl,hwr,HT⟩:=hrel
  subst hwr
  by_cases hlt:k<s.size
  ·obtain ⟨c,hc⟩:∃c,s[k]=c:=⟨_,rfl⟩
   have hkl:k<s.data.toList.length:=by rw[dl];exact hlt
   have hcl:s.data.toList[k]=c:=hc
   by_cases PL:c=91
   ·have q1:((c.toNat:Int)==91)=true:=Xv c 91 PL
    have HN:Hid (vF s.data.toList (k+1) true=T):=by
     show _=_
     rw[←HT.out,IU _ k i hkl (by rw[hcl,PL];simp),hcl,if_pos PL]
    clear hkl hcl PL
    go_wp2
    go_roundw
    case rel=>exact⟨k+1,true,by omega,by go_num,rfl,by first|rfl|trivial,HN.out⟩
    case measure=>simp[intOf];omega
   have q1:((c.toNat:Int)==91)=false:=Xw c 91 PL
   by_cases h93:c=93
   ·have q2:((c.toNat:Int)==93)=true:=Xv c 93 h93
    have HN:Hid (vF s.data.toList (k+1) false=T):=by
     show _=_
     rw[←HT.out,IU _ k i hkl (by rw[hcl,h93];simp),hcl,if_neg PL,if_pos h93]
    clear hkl hcl PL h93
    go_wp2
    go_roundw
    case rel=>exact⟨k+1,false,by omega,by go_num,rfl,by first|rfl|trivial,HN.out⟩
    case measure=>simp[intOf];omega
   have q2:((c.toNat:Int)==93)=false:=Xw c 93 h93
   by_cases IQ:c=58
   ·have q3 : ((c.toNat : Int) == 58) = true := Xv c 58 IQ
    cases i with
    | false=>
     have HE:Hid (T=(s.data.toList.take k,s.data.toList.drop (k+1),true)):=by
      show _=_
      rw[←HT.out,adI _ k hkl (by rw[hcl,IQ])]
     obtain⟨P,hPP⟩:∃P,P=strOf (s.data.toList.take k):=⟨_,rfl⟩
     obtain⟨Q,hQQ⟩:∃P,P=strOf (s.data.toList.drop (k+1)):=⟨_,rfl⟩
     have e1:s.extract 0 k=P:=by rw[hPP];exact RU s k
     have e2:s.extract (k+1) s.size=Q:=by rw[hQQ];exact l7 s (k+1)
     have HPP:=hid hPP
     have HQQ:=hid hQQ
     clear hPP hQQ
     have hk1:(k:Int)+1≤(s.size:Int):=by omega
     have hkI:(k:Int)≤(s.size:Int):=by omega
     have hk0:k≤s.size:=hk
     have hkt:((k:Int)+1).toNat=k+1:=by omega
     clear hkl hcl PL h93 IQ
     go_upto_region 10 with(fail)
     refine aV (by kernel_rfl) [is (.string s),is (.int .i64 (k:Int)),is (.string P),is (.string s),is (.int .i64 (k:Int)),is (.int .i64 ((k:Int)+1)),is (.string Q),is (.string P),is (.string Q),is (.bool true)] [[],[],[0,1],[],[],[4],[3,5],[2],[6],[]] (by kernel_rfl) ?_ ?_
     ·refine ⟨?_,?_,?_,?_,?_,?_,?_,?_,?_,?_,trivial⟩
      all_goals(intro t wq hbq hh K hK;simp only[filled,upd,Have,is,any,row,pick,Act.put,List.setIfInBounds_toArray,List.set_cons_zero,List.set_cons_succ,Nat.reduceAdd,Nat.reduceEqDiff,reduceIte,List.tail_cons,List.headD_cons]at hh hK⊢)
      iterate 2
       ·clear hh
        go_simp
        exact hK _ _ blr rfl
      ·have e0:=hh.1
       have e1:=hh.2.1
       clear hh
       simp only[e0,e1]at hK⊢
       have hx:=e1
       go_simp
       exact hK _ _ blr rfl
      iterate 2
       ·clear hh
        go_simp
        exact hK _ _ blr rfl
      ·have e4:=hh.1
       clear hh
       simp only[e4]at hK⊢
       go_simp
       first|exact hK _ _ blr rfl|exact hK _ _ blr (iC (by omega) (by omega))
      ·have e3:=hh.1
       have e5:=hh.2.1
       clear hh
       simp only[e3,e5]at hK⊢
       have hx:=e2
       have hkt:((k:Int)+1).toNat=k+1:=by omega
       go_simp
       exact hK _ _ blr rfl
      iterate 3
       ·try simp only[hh]at hK⊢
        clear hh
        go_simp
        exact hK _ _ blr rfl
     intro t wq hbq hh
     have f7:=aB hh 7 (by decide)
     simp only[pick]at f7
     replace f7:t 7=(.string P):=f7
     have f8:=aB hh 8 (by decide)
     simp only[pick]at f8
     replace f8:t 8=(.string Q):=f8
     have f9:=aB hh 9 (by decide)
     simp only[pick]at f9
     replace f9:t 9=(.bool true):=f9
     clear hh
     simp only[filled,upd,Have,is,any,row,pick,Act.put,List.setIfInBounds_toArray,List.set_cons_zero,List.set_cons_succ,Nat.reduceAdd,Nat.reduceEqDiff,reduceIte]
     simp only[f7,f8,f9]
     go_wp2
     go_ret3
     exact⟨by rw[HE.out,←HPP.out,←HQQ.out];rfl,hbq⟩
    |true=>
     have HN:Hid (vF s.data.toList (k+1) true=T):=by
      show _=_
      rw[←HT.out,IU _ k true hkl (by simp),hcl,if_neg PL,if_neg h93]
     clear hkl hcl PL h93 IQ
     go_wp2
     go_roundw
     case rel=>exact⟨k+1,true,by omega,by go_num,rfl,by first|rfl|trivial,HN.out⟩
     case measure=>simp[intOf];omega
   have q3:((c.toNat:Int)==58)=false:=Xw c 58 IQ
   have HN:Hid (vF s.data.toList (k+1) i=T):=by
    show _=_
    rw[←HT.out,IU _ k i hkl (fun h=>IQ (hcl▸h.1)),hcl,if_neg PL,if_neg h93]
   clear hkl hcl PL h93 IQ
   go_wp2
   go_roundw
   case rel=>exact⟨k+1,i,by omega,by go_num,rfl,by first|rfl|trivial,HN.out⟩
   case measure=>simp[intOf];omega
  obtain rfl:k=s.size:=by omega
  have HE:Hid (T=(s.data.toList,[],false)):=by
   show _=_
   rw[←HT.out,←dl,ahI]
  go_wp2
  go_ret3
  exact⟨by rw[HE.out,aG];rfl,Below.refl _ _⟩
theorem aa4 (sc d:ByteArray) (w:World) (hs:d.size≤1073741824):Calls Tryz.prog 228 #[.string sc,.string d] w fun e w'=>PrtV (prt sc.data.toList d.data.toList) e∧w'=w:=by
 obtain⟨o,ho⟩:∃o,o=prt sc.data.toList d.data.toList:=⟨_,rfl⟩
 rw[←ho]
 have HP:=hid ho
 by_cases h0:d.data.toList=[]
 ·have q0:(d.toList==[])=true:=by rw[Lib.toList_data,h0];rfl
  have q1:d.toList=[]:=by rw[Lib.toList_data,h0]
  have HE:Hid (o=some (-1)):=by show _=_;rw[HP.out,h0];rfl
  clear ho h0
  go_enter Tryz.func228,Tryz.ntmps228
  go_wp2
  go_ret2
  exact⟨by rw[HE.out];rfl,rfl⟩
 have q0:(d.toList==[])=false:=by rw[Lib.toList_data,beq_eq_false_iff_ne];exact h0
 have q1:¬d.toList=[]:=by rw[Lib.toList_data];exact h0
 have q2:d.toList.isEmpty=false:=by rw[Lib.toList_data];simpa using h0
 have H0:Hid (d.data.toList≠[]):=h0
 have hdef:=fun w=>ML sc w
 obtain⟨D,hD⟩:∃D,D=portOf sc.data.toList:=⟨_,rfl⟩
 rw[←hD]at hdef
 have HD:=hid hdef
 have Td:=hid hD
 clear ho h0 hdef hD
 go_enter Tryz.func228,Tryz.ntmps228
 go_wp2
 go_loopw [6,7] (fun vn vk wr=>∃(k n:Nat),k≤d.size∧vk=.int .i64 (k:Int)∧vn=.int .i64 (n:Int)∧n≤65536∧wr=w∧Hid (n=FH (d.data.toList.take k))∧Hid ((d.data.toList.take k).all Fz=true)) (fun _ vk _=>d.size - (intOf vk).toNat)
 case atStart=>exact⟨0,0,Nat.zero_le _,rfl,rfl,by omega,rfl,rfl,rfl⟩
 case round=>
  obtain⟨k,n,hk,rfl,rfl,hn,hwr,HN,HA⟩:=hrel
  subst hwr
  by_cases hlt:k<d.size
  ·obtain⟨c,hc⟩:∃c,d[k]=c:=⟨_,rfl⟩
   have hkl:k<d.data.toList.length:=by rw[dl];exact hlt
   have hcl:d.data.toList[k]=c:=hc
   have hdg:=fun w=>fE (c.toNat:Int) w
   cases hd:digit (c.toNat:Int)with
   |false=>
    have HE:Hid (o=none):=by show _=_;rw[HP.out];exact prt_bad _ _ k hkl (by rw[hcl];exact hd)
    rw[hd]at hdg
    have Tv:=hid hdg
    clear hkl hcl hd hdg
    go_wp2_with fail
    refine(Tv.out _).mono ?_
    rintro e w2 ⟨rfl,hw2⟩
    subst hw2
    go_wp2
    go_ret2
    exact⟨by rw[HE.out];exact⟨_,rfl⟩,rfl⟩
   |true=>
    rw[hd]at hdg
    have Tv:=hid hdg
    obtain⟨v1,v2⟩:=asu c hd
    obtain⟨m,hm⟩:∃m,m=min (n*10+(c.toNat - 48)) 65536:=⟨_,rfl⟩
    have xE:Hid (m=FH (d.data.toList.take (k+1))):=by show _=_;rw[Q8 _ k hkl,hcl,←HN.out,hm]
    have HA2:Hid ((d.data.toList.take (k+1)).all Fz=true):=by show _=_;rw[TN _ k hkl,HA.out,hcl];exact hd
    have hmI:min ((n:Int)*10+((c.toNat:Int) - 48)) 65536=(m:Int):=by omega
    have hm2:m≤65536:=by omega
    have hc1:48≤(c.toNat:Int):=by omega
    have hc2:(c.toNat:Int)≤57:=by omega
    clear hkl hcl hd hdg hm v1 v2
    go_wp2_with fail
    refine(Tv.out _).mono ?_
    rintro e w2 ⟨rfl,hw2⟩
    subst hw2
    go_wp2
    go_roundw
    case rel=>exact⟨k+1,m,by omega,by go_num,by first|rfl|(rw[←hmI];congr 1;omega)|(simp only[←hmI];first|rfl|(congr 1;split<;>omega)),hm2,by first|rfl|trivial,xE.out,HA2.out⟩
    case measure=>simp[intOf];omega
  obtain rfl:k=d.size:=by omega
  have HE:Hid (o=if (n:Int)=D then some (-1)else if n≤65535 then some (n:Int)else none):=by
   show _=_
   have h1:=HN.out
   have h2:=HA.out
   rw[List.take_of_length_le (by rw[dl];exact Nat.le_refl _)]at h1 h2
   rw[HP.out,abb _ _ H0.out h2,←h1,←Td.out]
  by_cases hd:(n:Int)=D
  ·have HE2:Hid (o=some (-1)):=by show _=_;rw[HE.out,if_pos hd]
   have q3:((n:Int)==D)=true:=by rw[beq_iff_eq];exact hd
   clear hd
   go_wp2_with fail
   refine(HD.out _).mono ?_
   rintro e w2 ⟨rfl,hw2⟩
   subst hw2
   go_wp2
   go_ret2
   exact⟨by rw[HE2.out];rfl,rfl⟩
  have q3:((n:Int)==D)=false:=by rw[beq_eq_false_iff_ne];exact hd
  by_cases h6:n≤65535
  ·have HE2:Hid (o=some (n:Int)):=by show _=_;rw[HE.out,if_neg hd,if_pos h6]
   have h6i:(n:Int)≤65535:=by omega
   clear hd
   go_wp2_with fail
   refine(HD.out _).mono ?_
   rintro e w2 ⟨rfl,hw2⟩
   subst hw2
   go_wp2
   go_ret2
   exact⟨by rw[HE2.out];rfl,rfl⟩
  have HE2:Hid (o=none):=by show _=_;rw[HE.out,if_neg hd,if_neg h6]
  have h6i:¬(n:Int)≤65535:=by omega
  clear hd
  go_wp2_with fail
  refine(HD.out _).mono ?_
  rintro e w2 ⟨rfl,hw2⟩
  subst hw2
  go_wp2
  go_ret2
  exact⟨by rw[HE2.out];exact⟨(n:Int),congrArg (fun b=>Ending.returned (.tuple #[.int .i64 (n:Int),.bool b])) (decide_eq_false (by omega))⟩,rfl⟩
theorem XW (s:ByteArray) (w:World) (hs:s.size≤1073741824):Calls Tryz.prog 112 #[.string s] w fun e w'=>e=.returned (.bool (lI s.data.toList))∧w'=w:=by
 obtain⟨V,hV⟩:∃V,V=lI s.data.toList:=⟨_,rfl⟩
 rw[←hV]
 have HV:=hid hV
 clear hV
 have hixx:=ix3
 go_enter Tryz.func112,Tryz.ntmps112
 go_wp2
 go_loopw [3] (fun vk wr=>∃k:Nat,k≤s.size∧vk=.int .i64 (k:Int)∧wr=w∧Hid (∀j,j<k→oC s.data.toList j=true)) (fun vk _=>s.size - (intOf vk).toNat)
 case atStart=>exact⟨0,Nat.zero_le _,rfl,rfl,fun j h=>by omega⟩
 case round=>
  obtain⟨k,hk,rfl,hwr,HA⟩:=hrel
  subst hwr
  by_cases hlt:k<s.size
  ·obtain ⟨c,hc⟩:∃c,s[k]=c:=⟨_,rfl⟩
   have hkl:k<s.data.toList.length:=by rw[dl];exact hlt
   have hcl:s.data.toList[k]=c:=hc
   have hat:oC s.data.toList k=(letter (c.toNat:Int)||(decide (k≠0)&&NT c)):=by rw[anu _ k hkl,hcl]
   have hno:=ame s.data.toList k hkl
   have hlet:=fun w=>dN (c.toNat:Int) w
   have hdig:=fun w=>fE (c.toNat:Int) w
   have hix:=fun w=>Tryz.strings_IndexByte ⟨#[43,45,46]⟩ (c.toNat:Int) w
   have e2:((c.toNat:Int)).toNat.toUInt8=c:=by simp
   rw[e2,show(⟨#[43,45,46]⟩:ByteArray).data.toList=[43,45,46]from rfl]at hix
   have hi3:=hixx c
   obtain⟨z,hz⟩:∃z,z=Lib.indexByte [43,45,46] c:=⟨_,rfl⟩
   rw[←hz]at hix hi3
   have HNX:Hid (oC s.data.toList k=true→∀j,j<k+1→oC s.data.toList j=true):=by
    intro h j hj
    by_cases hjk:j<k
    ·exact HA.out j hjk
    obtain rfl:j=k:=by omega
    exact h
   obtain⟨l,hl⟩:∃l,l=letter (c.toNat:Int):=⟨_,rfl⟩
   obtain⟨g,hg⟩:∃l,l=digit (c.toNat:Int):=⟨_,rfl⟩
   have hsc:NT c=(l||(g||decide (0≤z))):=by unfold NT;rw[hi3,hl,hg]
   rw[←hl]at hlet hat
   rw[←hg]at hdig
   rw[hsc]at hat
   have HL:=hid hlet
   have HG:=hid hdig
   have HX:=hid hix
   have HAT:=hid hat
   have qc:=hid hno
   clear hkl hcl hlet hdig hix e2 hi3 hz hl hg hsc hat hno
   cases l with
   |true=>
    have HN:Hid (∀j,j<k+1→oC s.data.toList j=true):=HNX.out (by rw[HAT.out];rfl)
    go_wp2_with fail
    refine(HL.out _).mono ?_
    rintro e w2 ⟨rfl,hw2⟩
    subst hw2
    go_wp2
    go_roundw
    case rel=>exact⟨k+1,by omega,by go_num,by first|rfl|trivial,HN.out⟩
    case measure=>simp[intOf];omega
   | false=>
    by_cases hk0:k=0
    ·have HE:Hid (V=false):=by show _=_;rw[HV.out];exact qc.out (by rw[HAT.out,hk0];rfl)
     have q0:((k:Int)==0)=true:=by rw[hk0];rfl
     clear hk0
     go_wp2_with fail
     refine(HL.out _).mono ?_
     rintro e w2 ⟨rfl,hw2⟩
     subst hw2
     go_wp2
     go_ret
     exact⟨ak (by rw[HE.out]),rfl⟩
    have q0:((k:Int)==0)=false:=by rw[beq_eq_false_iff_ne];omega
    have HAT2:Hid (oC s.data.toList k=(g||decide (0≤z))):=by show _=_;rw[HAT.out,decide_eq_true hk0];rfl
    clear hk0
    cases g with
    |true=>
     have HN:Hid (∀j,j<k+1→oC s.data.toList j=true):=HNX.out (by rw[HAT2.out];rfl)
     go_wp2_with fail
     refine(HL.out _).mono ?_
     rintro e w2 ⟨rfl,hw2⟩
     subst hw2
     go_wp2_with fail
     refine(HG.out _).mono ?_
     rintro e w2 ⟨rfl,hw2⟩
     subst hw2
     go_wp2
     go_roundw
     case rel=>exact⟨k+1,by omega,by go_num,by first|rfl|trivial,HN.out⟩
     case measure=>simp[intOf];omega
    |false=>
     by_cases hz0:0≤z
     ·have HN:Hid (∀j,j<k+1→oC s.data.toList j=true):=HNX.out (by rw[HAT2.out,decide_eq_true hz0];rfl)
      have hz1:¬z<0:=by omega
      go_wp2_with fail
      refine(HL.out _).mono ?_
      rintro e w2 ⟨rfl,hw2⟩
      subst hw2
      go_wp2_with fail
      refine(HG.out _).mono ?_
      rintro e w2 ⟨rfl,hw2⟩
      subst hw2
      go_wp2_with fail
      refine(HX.out _).mono ?_
      rintro e w2 ⟨rfl,hw2⟩
      subst hw2
      go_wp2
      go_roundw
      case rel=>exact⟨k+1,by omega,by go_num,by first|rfl|trivial,HN.out⟩
      case measure=>simp[intOf];omega
     have HE:Hid (V=false):=by show _=_;rw[HV.out];exact qc.out (by rw[HAT2.out,decide_eq_false hz0];rfl)
     have hz1:z<0:=by omega
     go_wp2_with fail
     refine(HL.out _).mono ?_
     rintro e w2 ⟨rfl,hw2⟩
     subst hw2
     go_wp2_with fail
     refine(HG.out _).mono ?_
     rintro e w2 ⟨rfl,hw2⟩
     subst hw2
     go_wp2_with fail
     refine(HX.out _).mono ?_
     rintro e w2 ⟨rfl,hw2⟩
     subst hw2
     go_wp2
     go_ret
     exact⟨ak (by rw[HE.out]),rfl⟩
  obtain rfl:k=s.size:=by omega
  have hE:V=decide (s.data.toList≠[]):=by rw[HV.out];exact ahS _ fun j hj=>HA.out j (by rw[dl]at hj;exact hj)
  by_cases h0:s.data.toList=[]
  ·have HE:Hid (V=false):=by show _=_;rw[hE];exact decide_eq_false (fun h=>h h0)
   have q0:(s.toList==[])=true:=by rw[Lib.toList_data,h0];rfl
   have q1:s.toList=[]:=by rw[Lib.toList_data,h0]
   clear hE h0
   go_wp2
   go_ret
   exact⟨ak (by rw[HE.out]),rfl⟩
  have HE:Hid (V=true):=by show _=_;rw[hE];exact decide_eq_true h0
  have q0:(s.toList==[])=false:=by rw[Lib.toList_data,beq_eq_false_iff_ne];exact h0
  have q1:¬s.toList=[]:=by rw[Lib.toList_data];exact h0
  have q2:s.toList.isEmpty=false:=by rw[Lib.toList_data];simpa using h0
  clear hE h0
  go_wp2
  go_ret
  exact⟨ak (by rw[HE.out]),rfl⟩
where
 ix3 (c:UInt8):(decide (c=43)||(decide (c=45)||decide (c=46)))=decide (0≤Lib.indexByte [43,45,46] c):=by
  have H:∀n:Fin 256,(decide (UInt8.ofNat n.val=43)||(decide (UInt8.ofNat n.val=45)||decide (UInt8.ofNat n.val=46)))=decide (0≤Lib.indexByte [43,45,46] (UInt8.ofNat n.val)):=by decide+kernel
  have:=H ⟨c.toNat,c.toNat_lt⟩
  simpa using this
end Go.Proofs.YtgamccijegollaaGreatDoor.Fp
namespace Go.Proofs.YtgamccijegollaaGreatDoor.tK
open Go.RowKit Base L6 Dp dI cO acv ac2 aco wS yw tN Fp mW
def Own (w0 w:World) (u:U) (A:Option Addr) (n c:Nat):Prop:=w.ownsRow w0.heap.size 9 1 (.slice A n c) n (u.aO.map Value.string)
theorem Own.aO {w0 w:World} {u:U} {A:Option Addr} {n c:Nat} (h:Own w0 w u A n c):dR w u A n c:=by
 obtain⟨A',c',e,h1,h2,h3⟩:=aJ h
 cases e
 exact⟨h3,h1,h2⟩
theorem Own.below {w0 w w':World} {u:U} {A:Option Addr} {n c:Nat} (h:Own w0 w u A n c) (hb:Below w.heap.size w w'):Own w0 w' u A n c:=aP h hb
theorem Own.row {w0 w:World} {u:U} {A:Option Addr} {n c g:Nat} (h:Own w0 w u A n c) (hg:g<w0.heap.size) (cs:Array Value):Own w0 (w.setRow g cs) u A n c:=gU.aN (gb:=g) h (fun k hk=>setRow_other _ _ _ _ hk) hg
theorem Own.base {w0 w1 w:World} {u:U} {A:Option Addr} {n c:Nat} (h:Own w1 w u A n c) (hb:w0.heap.size≤w1.heap.size):Own w0 w u A n c:=ay h hb
theorem wY (w0 w:World) {u:U} (h:u.aO=[]):Own w0 w u none 0 0:=by
 unfold Own
 rw[h]
 exact World.ownsRow_nil _ _ _ _
def mO (w:World) (o:Option U) (e:Ending) (w':World):Prop:=Below w.heap.size w w'∧∃u A n c ok,e=.returned (.tuple #[.agg (cells u (.slice A n c)),.bool ok])∧Own w w' u A n c∧(o=some u∧ok=true∨o=none∧ok=false∧u=U0)
end Go.Proofs.YtgamccijegollaaGreatDoor.tK
namespace Go.Proofs.YtgamccijegollaaGreatDoor.Zo
open Go.RowKit Base acJ
theorem qV (c:UInt8) (d:Bool) (w:World):Calls Tryz.prog 284 #[.int .u8 (c.toNat:Int),.bool d] w fun e w'=>e=.returned (.bool (JU d c))∧w=w':=by
 cases d with
 |false=>
  go_enter Tryz.func284,Tryz.ntmps284
  go_wp2_with fail
  refine(Tryz.strings_IndexByte _ _ _).mono ?_
  rintro e w1 ⟨rfl,rfl⟩
  rw[show(⟨#[0,9,10,13,32,35,47,58,60,62,63,64,91,92,93,94,124]⟩:ByteArray).data.toList=FRB from rfl,show((c.toNat:Int).toNat).toUInt8=c by simp]
  go_wp2_with fail
  go_ret
  exact⟨ak (by rw[Vd,←Vh]),rfl⟩
 | true=>
  by_cases h:c.toNat<32∨c=127∨c=37
  ·have HE:Hid (JU true c=true):=by
    show _=_
    rcases h with h|rfl|rfl
    ·simp[JU,h]
    ·rfl
    rfl
   rcases h with h|rfl|rfl
   ·have h1:(c.toNat:Int)<32:=by omega
    clear h
    go_enter Tryz.func284,Tryz.ntmps284
    go_wp2
    go_ret
    exact⟨by rw[HE.out];rfl,rfl⟩
   ·go_enter Tryz.func284,Tryz.ntmps284
    go_wp2
    go_ret
    exact⟨by rw[HE.out];rfl,rfl⟩
   go_enter Tryz.func284,Tryz.ntmps284
   go_wp2
   go_ret
   exact⟨by rw[HE.out];rfl,rfl⟩
  have h1:¬(c.toNat:Int)<32:=by omega
  have h2:((c.toNat:Int)==127)=false:=by
   rw[beq_eq_false_iff_ne]
   intro e
   exact h (.inr (.inl (UInt8.toNat_inj.1 (by show _=127;omega))))
  have h3:((c.toNat:Int)==37)=false:=by
   rw[beq_eq_false_iff_ne]
   intro e
   exact h (.inr (.inr (UInt8.toNat_inj.1 (by show _=37;omega))))
  have HE:Hid (JU true c=U1 c):=by
   show _=_
   have e1:decide (c.toNat<32)=false:=by simp;omega
   have e2:(c==127)=false:=by rw[beq_eq_false_iff_ne];exact fun e=>h (.inr (.inl e))
   have e3:(c==37)=false:=by rw[beq_eq_false_iff_ne];exact fun e=>h (.inr (.inr e))
   simp[JU,e1,e2,e3]
  clear h
  go_enter Tryz.func284,Tryz.ntmps284
  go_wp2_with fail
  refine(Tryz.strings_IndexByte _ _ _).mono ?_
  rintro e w1 ⟨rfl,rfl⟩
  rw[show(⟨#[0,9,10,13,32,35,47,58,60,62,63,64,91,92,93,94,124]⟩:ByteArray).data.toList=FRB from rfl,show((c.toNat:Int).toNat).toUInt8=c by simp]
  go_wp2_with fail
  go_ret
  exact⟨ak (by rw[HE.out,←Vh]),rfl⟩
end Go.Proofs.YtgamccijegollaaGreatDoor.Zo
namespace Go.Proofs.YtgamccijegollaaGreatDoor.WJ
open Go.RowKit Base Dp cO oO wu O5 gU jQ WU nP akq acJ Zo pO
theorem Ov (f:Nat→Nat):am8 (V8 f)=nP.prt f:=by
 unfold am8 nP.prt zs
 rfl
theorem akO (M:Nat):∀(ps:List (List UInt8)) (most acc n:Nat),ps≠[]→mZ most acc ps=some n→acc+most≤M→n<M
 |[],_,_,_,h,_,_=>absurd rfl h
 |[p],most,acc,n,_,h,hM=>by
  unfold mZ at h
  split at h
  ·split at h
   ·injection h with h;omega
   ·cases h
  ·cases h
 | p :: q :: r, most, acc, n, _, h, hM => by
  unfold mZ at h
  split at h
  ·rename_i v _
   split at h
   ·refine akO M (q::r) (most / 256) (acc+v*(most / 256)) n (by simp) h ?_
    have h1:v*(most / 256)≤255*(most / 256):=Nat.mul_le_mul_right _ (by omega)
    have h2:256*(most / 256)≤most:=Nat.mul_div_le most 256
    omega
   ·cases h
  ·cases h
theorem Ri {L:List UInt8} {n:Nat} (h:NR L=some n):n<4294967296:=by
 unfold NR at h
 split at h
 ·exact akO 4294967296 _ _ _ _ (qY _) h (by omega)
 cases h
theorem Sm (L:List UInt8):(Lib.trimSuffix L [93]).length≤L.length:=by
 unfold Lib.trimSuffix
 split
 ·rw[List.length_take];omega
 exact Nat.le_refl _
theorem agb (f:Nat→Nat):(nP.prt f).length≤100:=by
 unfold nP.prt
 have h1:=KQ (V8 f)
 have h2:=KQ ((V8 f).take (Bz (zs f)).1)
 have h3:=KQ ((V8 f).drop (Bz (zs f)).2)
 have h8:(V8 f).length=8:=rfl
 rw[List.length_take]at h2
 rw[List.length_drop]at h3
 split
 ·omega
 simp only[List.length_append,List.length_cons,List.length_nil]
 omega
theorem aeb (e:Bool):∀{ps:List (List UInt8)} {l:List Nat},iT e ps=some l→∀x ∈ l,x<65536
 |[],l,h=>by injection h with h;subst h;intro x hx;simp at hx
 | p ::r,l,h=>by
  rw[iT]at h
  split at h
  ·obtain⟨a,b,rfl⟩:=Yi h
   have:=SixF.Rl h
   intro x hx
   simp at hx
   rcases hx with rfl|rfl
   ·exact this.1
   ·exact this.2
  ·split at h
   ·cases h
   ·rename_i n hn
    split at h
    ·cases h
    ·rename_i x e2
     injection h with h
     subst h
     intro y hy
     rcases List.mem_cons.1 hy with rfl|hy
     ·exact amW hn
     ·exact aeb e e2 y hy
theorem six_lt {s:List UInt8} {V:List Nat} (h:six s=some V):∀x ∈ V,x<65536:=by
 have hside:∀(e:Bool) (ps:List (List UInt8)) (l:List Nat),gJ e ps=some l→∀x ∈ l,x<65536:=by
  intro e ps l h
  unfold gJ at h
  split at h
  ·injection h with h;subst h;intro x hx;simp at hx
  exact aeb e h
 unfold six at h
 split at h
 ·unfold wu.eight at h
  split at h
  ·rename_i a ha
   split at h
   ·injection h with h
    subst h
    rw[List.nil_append]
    exact aeb true ha
   cases h
  cases h
 unfold both at h
 split at h
 ·rename_i a b ha hb
  split at h
  ·injection h with h
   subst h
   intro x hx
   unfold fill at hx
   simp only[List.nil_append,List.mem_append,List.mem_replicate]at hx
   rcases hx with(hx|hx)|hx
   ·exact hside _ _ _ ha x hx
   ·omega
   exact hside _ _ _ hb x hx
  cases h
 cases h
theorem Yw {s:List UInt8} {V:List Nat} (h:six s=some V):∃f:Nat→Nat,V=V8 f∧∀i,f i<65536:=by
 refine⟨fun i=>V.getD i 0,Bv (six_len h),fun i=>?_⟩
 rcases Nat.lt_or_ge i V.length with hi|hi
 ·show V.getD i 0<_
  rw[List.getD_eq_getElem?_getD,List.getElem?_eq_getElem hi]
  exact six_lt h _ (List.getElem_mem hi)
 show V.getD i 0<_
 rw[List.getD_eq_getElem?_getD,List.getElem?_eq_none hi]
 simp
theorem ZI (s:ByteArray) (w:World) (hs:s.size≤1048576) (hL:oI w) (hM:Max w):Calls Tryz.prog 282 #[.string s] w fun e w'=>e=.returned (HV (hbr s.data.toList))∧Below w.heap.size w w':=by
 have HL:=hid hL
 have HM:=hid hM
 obtain⟨I,hI⟩:∃I:ByteArray,I=strOf (Lib.trimSuffix s.data.toList [93]):=⟨_,rfl⟩
 have hIs:I.size≤1048576:=by
  rw[hI,o9]
  have:=Sm s.data.toList
  have:s.data.toList.length=s.size:=Array.length_toList
  omega
 have hcs:=fun w=>Tryz.strings_CutSuffix s ⟨#[93]⟩ w (by omega)
 rw[show(⟨#[93]⟩:ByteArray).data.toList=[93]from rfl,show(⟨(Lib.trimSuffix s.data.toList [93]).toArray⟩:ByteArray)=I from hI.symm]at hcs
 have hId:I.data.toList=Lib.trimSuffix s.data.toList [93]:=by rw[hI];rfl
 have hb:hbr s.data.toList=if Lib.hasSuffix s.data.toList [93]=true then addr I.data.toList else none:=by rw[hId];rfl
 obtain⟨H,hH⟩:∃H,H=HV (hbr s.data.toList):=⟨_,rfl⟩
 rw[←hH]
 rw[hb]at hH
 clear hI hId hb hL hM
 cases hsf:Lib.hasSuffix s.data.toList [93]with
 |false=>
  rw[hsf]at hcs hH
  have HE:Hid (H=.tuple #[.string (strOf []),.bool false]):=by show _=_;rw[hH];rfl
  have HC:=hid hcs
  clear hcs hH hsf
  go_enter Tryz.func282,Tryz.ntmps282
  go_wp2_with fail
  refine(HC.out _).mono ?_
  rintro e w1 ⟨rfl,hww⟩
  obtain rfl:w=w1:=hww.symm
  go_wp2
  go_ret2
  exact⟨by rw[HE.out];rfl,Below.refl _ _⟩
 | true=>
  rw[hsf]at hcs hH
  rw[if_pos rfl]at hH
  have HC:=hid hcs
  clear hcs hsf
  have hpa:=fun w hM=>parse_any I w hIs hM
  cases hv:six I.data.toList with
  |none=>
   have HE:Hid (H=.tuple #[.string (strOf []),.bool false]):=by show _=_;rw[hH];unfold addr;rw[hv];rfl
   rw[hv]at hpa
   obtain⟨f,hf⟩:∃f:Nat→Nat,V8 f=oJ:=⟨fun _=>0,rfl⟩
   have uQ:Hid (acQ none=.tuple #[.agg #[.int .u16 (f 0:Int),.int .u16 (f 1:Int),.int .u16 (f 2:Int),.int .u16 (f 3:Int),.int .u16 (f 4:Int),.int .u16 (f 5:Int),.int .u16 (f 6:Int),.int .u16 (f 7:Int)],.bool false]):=by
    show acQ none=.tuple #[.agg (aT (V8 f)).toArray,.bool false]
    rw[hf]
    rfl
   rw[uQ.out]at hpa
   have HP:=hid hpa
   clear hpa hv hH hIs hf
   go_enter Tryz.func282,Tryz.ntmps282
   go_wp2_with fail
   refine(HC.out _).mono ?_
   rintro e w1 ⟨rfl,hww⟩
   obtain rfl:w=w1:=hww.symm
   go_wp2_with fail
   refine(HP.out _ HM.out).mono ?_
   rintro e w2 ⟨rfl,hb2⟩
   have HB2:=hid hb2
   clear hb2
   go_wp2
   go_ret2
   exact⟨by rw[HE.out];rfl,HB2.out.alloc HB2.out.size _⟩
  |some V=>
   obtain⟨f,rfl,h6⟩:=Yw hv
   have hE:H=.tuple #[.string (strOf (91::(nP.prt f++[93]))),.bool true]:=by rw[hH];unfold addr;rw[hv,←Ov];rfl
   rw[hv]at hpa
   have uQ:Hid (acQ (some (V8 f))=.tuple #[.agg #[.int .u16 (f 0:Int),.int .u16 (f 1:Int),.int .u16 (f 2:Int),.int .u16 (f 3:Int),.int .u16 (f 4:Int),.int .u16 (f 5:Int),.int .u16 (f 6:Int),.int .u16 (f 7:Int)],.bool true]):=rfl
   rw[uQ.out]at hpa
   have HP:=hid hpa
   obtain⟨P,hP⟩:∃P,P=strOf (nP.prt f):=⟨_,rfl⟩
   have UA:Hid (∀w,oI w→Calls Tryz.prog 303 #[A8 f] w fun e w'=>e=.returned (.string P)∧Below w.heap.size w w'):=by
    show ∀w,_
    rw[hP]
    exact fun w hL=>nP.print_any f h6 w hL
   obtain⟨Y,hY⟩:∃Y,Y=strOf (91::nP.prt f):=⟨_,rfl⟩
   obtain⟨Z,hZ⟩:∃Z,Z=strOf (91::(nP.prt f++[93])):=⟨_,rfl⟩
   rw[←hZ]at hE
   have hpl:=agb f
   have a1:∀w:World,(Op.stringOp .add ⟨#[91]⟩ P).run Tryz.prog w=.ok (.string Y) w:=fun w=>by
    rw[hY,hP]
    exact aci [91] _ w (by simp;omega)
   have a2:∀w:World,(Op.stringOp .add Y ⟨#[93]⟩).run Tryz.prog w=.ok (.string Z) w:=fun w=>by
    rw[hZ,hY]
    exact aci (91::nP.prt f) [93] w (by simp;omega)
   have HE:=hid hE
   clear hpa hv hH hIs hE hP hY hZ hpl h6 uQ
   go_enter Tryz.func282,Tryz.ntmps282
   go_wp2_with fail
   refine(HC.out _).mono ?_
   rintro e w1 ⟨rfl,hww⟩
   obtain rfl:w=w1:=hww.symm
   go_wp2_with fail
   refine(HP.out _ HM.out).mono ?_
   rintro e w2 ⟨rfl,hb2⟩
   have HB2:=hid hb2
   clear hb2
   go_upto_region 5 with(fail)
   generalize hw3:w2.alloc _=w3
   have HB3:Hid (Below w.heap.size w w3):=by
    show Below _ _ _
    rw[←hw3]
    exact HB2.out.alloc HB2.out.size _
   have jI:Hid (Box w3 w2.heap.size 304 (V8 f)):=by
    show Box _ _ _ _
    rw[←hw3]
    exact Xo f
   clear hw3
   obtain⟨c0,c1,c2,c3,c4,c5,c6,c7⟩:=dK jI.out f rfl
   go_wp2_with fail
   clear c0 c1 c2 c3 c4 c5 c6 c7
   refine(UA.out _ (HL.out.below HB3.out)).mono ?_
   rintro e w4 ⟨rfl,hb4⟩
   have HB4:=hid (bel HB3.out hb4)
   clear hb4
   go_wp2
   go_ret2
   exact⟨by rw[HE.out];rfl,HB4.out⟩
end Go.Proofs.YtgamccijegollaaGreatDoor.WJ
namespace Go.Proofs.YtgamccijegollaaGreatDoor.sU
open Go.RowKit Base Dp cO oO jQ acJ Zo WJ pO
theorem bY {w w':World} (h:Tab.Pow w) (hb:Below w.heap.size w w'):Tab.Pow w':=Tab.Pow.below h hb
theorem Vz (L:List UInt8):(lower L).length=L.length:=by simp[lower]
theorem UD {L:List UInt8} (h:oks true L=false):HV (SL L)=.tuple #[.string (strOf []),.bool false]:=by unfold SL;rw[h];rfl
theorem acI {L:List UInt8} (h:oks true L=true):HV (SL L)=HV (XB (lower L)):=by unfold SL;rw[if_pos h]
theorem adn (s:ByteArray) (w:World) (hs:s.size≤900000) (hT:Tab.Pow w) (hM:Max w):Calls Tryz.prog 283 #[.string s] w fun e w'=>e=.returned (HV (SL s.data.toList))∧Below w.heap.size w w':=by
 have HT:=hid hT
 have HM:=hid hM
 have hl:s.data.toList.length=s.size:=Array.length_toList
 have HL:=hid hl
 obtain⟨H,hH⟩:∃H,H=HV (SL s.data.toList):=⟨_,rfl⟩
 rw[←hH]
 have HH:=hid hH
 have Zh:=hid hs
 clear hT hM hl hH
 go_enter Tryz.func283,Tryz.ntmps283
 go_wp2
 go_loopw [4] (fun vk wr=>∃k:Nat,k≤s.size∧vk=.int .i64 (k:Int)∧wr=w∧Hid (oks true (s.data.toList.take k)=true)) (fun vk _=>s.size - (intOf vk).toNat)
 case atStart=>exact⟨0,Nat.zero_le _,rfl,rfl,rfl⟩
 case round =>
  obtain⟨k,hk,rfl,rfl,HO⟩:=hrel
  by_cases hlt:k<s.size
  ·obtain ⟨c,hc⟩:∃c,s[k]=c:=⟨_,rfl⟩
   have hkl:k<s.data.toList.length:=by rw[HL.out];exact hlt
   have hcl:s.data.toList[k]=c:=hc
   by_cases h126:(126:Int)<(c.toNat:Int)
   ·have HE:Hid (H=.tuple #[.string (strOf []),.bool false]):=by
     show _=_
     rw[HH.out]
     refine UD (GU true _ k hkl ?_)
     rw[hcl,vM,decide_eq_false (by omega),Bool.and_false]
    clear hkl hcl
    go_wp2
    go_ret2
    exact⟨by rw[HE.out];rfl,Below.refl _ _⟩
   cases hf:JU true c with
   |true=>
    have HE:Hid (H=.tuple #[.string (strOf []),.bool false]):=by
     show _=_
     rw[HH.out]
     refine UD (GU true _ k hkl ?_)
     rw[hcl,vM,hf]
     rfl
    have hfc:=fun w=>qV c true w
    rw[hf]at hfc
    have HF:=hid hfc
    clear hkl hcl hf hfc
    go_wp2_with fail
    refine(HF.out _).mono ?_
    rintro e w2 ⟨rfl,rfl⟩
    go_wp2
    go_ret2
    exact⟨by rw[HE.out];rfl,Below.refl _ _⟩
   |false=>
    have HN:Hid (oks true (s.data.toList.take (k+1))=true):=by
     show _=_
     rw[qX true _ k hkl,HO.out,hcl,vM,hf,decide_eq_true (by omega)]
     rfl
    have hfc:=fun w=>qV c true w
    rw[hf]at hfc
    have HF:=hid hfc
    clear hkl hcl hf hfc
    go_wp2_with fail
    refine(HF.out _).mono ?_
    rintro e w2 ⟨rfl,rfl⟩
    go_wp2
    go_roundw
    case rel=>exact⟨k+1,by omega,by go_num,by first|rfl|trivial,HN.out⟩
    case measure=>simp[intOf];omega
  have hO:oks true s.data.toList=true:=by
   have:=HO.out
   rw[List.take_of_length_le (by rw[HL.out];omega)]at this
   exact this
  have hH2:H=HV (XB (lower s.data.toList)):=by rw[HH.out];exact acI hO
  obtain⟨M,hM⟩:∃M:ByteArray,M=strOf (lower s.data.toList):=⟨_,rfl⟩
  have XJ:lower s.data.toList=M.data.toList:=by rw[hM];rfl
  have hMs:M.size≤900000:=by rw[hM,o9,Vz,HL.out];omega
  have Tf:Hid (∀w:World,Calls Tryz.prog 113 #[.string s] w fun e w'=>e=.returned (.string M)∧Below w.heap.size w w'):=by
   show ∀w,_
   rw[hM]
   exact fun w=>cO.gI s w (by unfold maxLen;omega)
  rw[XJ]at hH2
  have hend:=fun w=>acO.aln M w hMs
  clear hM XJ hO HO HH
  cases he:ends M.data.toList with
  |false=>
   rw[he]at hend
   have F6:=hid hend
   by_cases hM0:M.data.toList=[]
   ·have hM1:M=strOf []:=by rw[←aG M,hM0]
    have HE:Hid (H=.tuple #[.string (strOf []),.bool false]):=by show _=_;rw[hH2,hM0];rfl
    have hq:M.toList=[]:=by rw[Lib.toList_data];exact hM0
    have hq2:(M.toList==[])=true:=by rw[hq];rfl
    have MS:=hid hM1
    clear hend he hM0 hM1 hH2 hq
    go_wp2_with fail
    refine(Tf.out _).mono ?_
    rintro e w2 ⟨rfl,hb2⟩
    have HB2:=hid hb2
    clear hb2
    go_wp2_with fail
    refine(F6.out _).mono ?_
    rintro e w3 ⟨rfl,hb3⟩
    have HB3:=hid (bel HB2.out hb3)
    clear hb3
    go_wp2
    go_ret2
    exact⟨by rw[HE.out,←MS.out];first|rfl|simp[hq2],HB3.out⟩
   have HE:Hid (H=.tuple #[.string M,.bool true]):=by
    show _=_
    rw[hH2]
    unfold XB
    rw[if_neg hM0,he,if_neg (by simp)]
    show Value.tuple #[.string (strOf M.data.toList),.bool true]=_
    rw[aG]
   have hq:(M.toList==[])=false:=by
    rw[Lib.toList_data,beq_eq_false_iff_ne]
    exact hM0
   have hq2:M.toList.isEmpty=false:=by rw[Lib.toList_data];simpa using hM0
   clear hend he hM0 hH2
   go_wp2_with fail
   refine(Tf.out _).mono ?_
   rintro e w2 ⟨rfl,hb2⟩
   have HB2:=hid hb2
   clear hb2
   go_wp2_with fail
   refine(F6.out _).mono ?_
   rintro e w3 ⟨rfl,hb3⟩
   have HB3:=hid (bel HB2.out hb3)
   clear hb3
   go_wp2
   go_ret2
   exact⟨by rw[HE.out];rfl,HB3.out⟩
  | true=>
   rw[he]at hend
   have F6:=hid hend
   have hM0:M.data.toList≠[]:=by intro h;rw[h]at he;cases he
   have hH3:H=HV ((NR M.data.toList).map Gl.pr):=by rw[hH2];unfold XB;rw[if_neg hM0,he,if_pos rfl]
   have hpa:=fun w hM=>BH.parse_any M w hMs hM
   clear hend he hM0 hH2
   cases hp:NR M.data.toList with
   |none=>
    rw[hp]at hpa hH3
    have HE:Hid (H=.tuple #[.string (strOf []),.bool false]):=by show _=_;rw[hH3];rfl
    have uQ:Hid (BH.oN none=.tuple #[.int .u32 0,.bool false]):=BH.dh _ rfl
    rw[uQ.out]at hpa
    have HP:=hid hpa
    clear hpa hH3 hp
    go_wp2_with fail
    refine(Tf.out _).mono ?_
    rintro e w2 ⟨rfl,hb2⟩
    have HB2:=hid hb2
    clear hb2
    go_wp2_with fail
    refine(F6.out _).mono ?_
    rintro e w3 ⟨rfl,hb3⟩
    have HB3:=hid (bel HB2.out hb3)
    clear hb3
    go_wp2_with fail
    refine(HP.out _ (HM.out.below HB3.out)).mono ?_
    rintro e w4 ⟨rfl,hb4⟩
    have HB4:=hid (bel HB3.out hb4)
    clear hb4
    go_wp2
    go_ret2
    exact⟨by rw[HE.out];rfl,HB4.out⟩
   |some n=>
    have hn:=Ri hp
    rw[hp]at hpa hH3
    obtain⟨R,hR⟩:∃R:ByteArray,R=strOf (Gl.pr n):=⟨_,rfl⟩
    have HE:Hid (H=.tuple #[.string R,.bool true]):=by show _=_;rw[hH3,hR];rfl
    have uQ:Hid (BH.oN (some n)=.tuple #[.int .u32 (n:Int),.bool true]):=BH.yX _ n rfl
    rw[uQ.out]at hpa
    have HP:=hid hpa
    have UA:Hid (∀w,Tab.Pow w→Calls Tryz.prog 306 #[.int .u32 (n:Int)] w fun e w'=>e=.returned (.string R)∧Below w.heap.size w w'):=by
     show ∀w,_
     rw[hR]
     exact fun w hT=>Gl.print_any n hn w hT
    clear hpa hH3 hp hn hR
    go_wp2_with fail
    refine(Tf.out _).mono ?_
    rintro e w2 ⟨rfl,hb2⟩
    have HB2:=hid hb2
    clear hb2
    go_wp2_with fail
    refine(F6.out _).mono ?_
    rintro e w3 ⟨rfl,hb3⟩
    have HB3:=hid (bel HB2.out hb3)
    clear hb3
    go_wp2_with fail
    refine(HP.out _ (HM.out.below HB3.out)).mono ?_
    rintro e w4 ⟨rfl,hb4⟩
    have HB4:=hid (bel HB3.out hb4)
    clear hb4
    go_wp2_with fail
    refine(UA.out _ (bY HT.out HB4.out)).mono ?_
    rintro e w5 ⟨rfl,hb5⟩
    have iG:=hid (bel HB4.out hb5)
    clear hb5
    go_wp2
    go_ret2
    exact⟨by rw[HE.out];rfl,iG.out⟩
theorem aav (L:List UInt8):Lib.hasPrefix L [91]=decide (L.head?=some 91):=by
 cases L with
 |nil=>rfl
 |cons c r=>
  unfold Lib.hasPrefix
  by_cases h:c=91
  ·subst h;simp[List.isPrefixOf]
  have h2:¬(91:UInt8)=c:=fun e=>h e.symm
  simp[List.isPrefixOf,h,h2]
theorem parse_any (s:ByteArray) (sp:Bool) (w:World) (hs:s.size≤900000) (hL:oI w) (hT:Tab.Pow w) (hM:Max w):Calls Tryz.prog 227 #[.string s,.bool sp] w fun e w'=>e=.returned (HV (hst s.data.toList sp))∧Below w.heap.size w w':=by
 have HL:=hid hL
 have HT:=hid hT
 have HM:=hid hM
 have hl:s.data.toList.length=s.size:=Array.length_toList
 have pY:=hid hl
 have hpx:=fun w=>Tryz.strings_HasPrefix s ⟨#[91]⟩ w
 rw[show(⟨#[91]⟩:ByteArray).data.toList=[91]from rfl,aav]at hpx
 obtain⟨H,hH⟩:∃H,H=HV (hst s.data.toList sp):=⟨_,rfl⟩
 rw[←hH]
 have Zh:=hid hs
 clear hL hT hM hl
 by_cases hh:s.data.toList.head?=some 91
 ·have hH2:H=HV (hbr s.data.toList.tail):=by rw[hH];unfold hst;rw[if_pos hh]
  rw[decide_eq_true hh]at hpx
  have HPX:=hid hpx
  have h1:1≤s.size:=by
   rw[←pY.out]
   cases e:s.data.toList with
   |nil=>rw[e]at hh;cases hh
   |cons a r=>simp
  have hX:(s.extract 1 s.size).data.toList=s.data.toList.tail:=by rw[SixE.Ey,List.drop_one]
  obtain⟨X,hXe⟩:∃X,X=s.extract 1 s.size:=⟨_,rfl⟩
  have hXs:X.size≤1048576:=by rw[hXe,ByteArray.size_extract];omega
  rw[←hXe]at hX
  rw[←hX]at hH2
  have HAD:=hid (fun w hL hM=>ZI X w hXs hL hM)
  obtain⟨a,b,hab⟩:∃a b,HV (hbr X.data.toList)=.tuple #[a,b]:=by
   cases hbr X.data.toList with
   |none=>exact⟨_,_,rfl⟩
   |some L=>exact⟨_,_,rfl⟩
  have HAB:=hid hab
  have HE:=hid (hH2.trans hab)
  have h1i:(1:Int)≤(s.size:Int):=by omega
  have HXE:=hid hXe
  clear hpx hh hH hH2 hX hXs hab hs hXe
  go_enter Tryz.func227,Tryz.ntmps227
  go_wp2_with fail
  refine(HPX.out _).mono ?_
  rintro e w2 ⟨rfl,hww⟩
  obtain rfl:w=w2:=hww.symm
  go_wp2_with fail
  rw[←HXE.out]
  refine(HAD.out _ HL.out HM.out).mono ?_
  rintro e w3 ⟨rfl,hb3⟩
  rw[HAB.out]
  have HB3:=hid hb3
  clear hb3
  go_wp2
  go_ret2
  exact⟨by rw[HE.out];rfl,HB3.out⟩
 rw[decide_eq_false hh]at hpx
 have HPX:=hid hpx
 cases sp with
 |true=>
  have hH2:H=HV (SL (fU.dec s.data.toList)):=by rw[hH];unfold hst;rw[if_neg hh,if_pos rfl]
  obtain⟨X,hX⟩:∃X:ByteArray,X=strOf (fU.dec s.data.toList):=⟨_,rfl⟩
  have NQ:X.data.toList=fU.dec s.data.toList:=by rw[hX];rfl
  have hXs:X.size≤900000:=by
   rw[hX,o9]
   have:=fU.ku s.data.toList
   rw[pY.out]at this
   omega
  have Y6:=hid (fun w=>fU.decode_any s w (by omega))
  rw[←NQ]at Y6
  rw[←NQ]at hH2
  have HDO:=hid (fun w hT hM=>adn X w hXs hT hM)
  obtain⟨a,b,hab⟩:∃a b,HV (SL X.data.toList)=.tuple #[a,b]:=by
   cases SL X.data.toList with
   |none=>exact⟨_,_,rfl⟩
   |some L=>exact⟨_,_,rfl⟩
  have HAB:=hid hab
  have HE:=hid (hH2.trans hab)
  clear hpx hh hH hH2 hX NQ hXs hab hs
  go_enter Tryz.func227,Tryz.ntmps227
  go_wp2_with fail
  refine(HPX.out _).mono ?_
  rintro e w2 ⟨rfl,hww⟩
  obtain rfl:w=w2:=hww.symm
  go_wp2_with fail
  refine(Y6.out _).mono ?_
  rintro e w3 ⟨v,rfl,hown,hb3⟩
  obtain⟨A3,c3,rfl,_,_,hrd3⟩:=aJ hown
  have hs3:(convert 45 9 (.slice A3 X.size c3)).run Tryz.prog w3=.ok (.string X) w3:=by
   have h:=aF (P:=Tryz.prog) 45 9 5 Tryz.underlying45 Tryz.underlying5 Tryz.underlying9 _ c3 hrd3
   rw[aG]at h
   exact h
  have HB3:=hid hb3
  clear hb3 hown hrd3
  go_wp2_with fail
  clear hs3
  refine(HDO.out _ (bY HT.out HB3.out) (HM.out.below HB3.out)).mono ?_
  rintro e w4 ⟨rfl,hb4⟩
  rw[HAB.out]
  have HB4:=hid (bel HB3.out hb4)
  clear hb4
  go_wp2
  go_ret2
  exact⟨by rw[HE.out];rfl,HB4.out⟩
 | false=>
  have HH:Hid (H=HV (zA s.data.toList)):=by show _=_;rw[hH];unfold hst;rw[if_neg hh,if_neg (by simp)]
  clear hpx hh hH
  go_enter Tryz.func227,Tryz.ntmps227
  go_wp2_with fail
  refine(HPX.out _).mono ?_
  rintro e w2 ⟨rfl,hww⟩
  obtain rfl:w=w2:=hww.symm
  go_wp2
  go_loopw [6] (fun vk wr=>∃k:Nat,k≤s.size∧vk=.int .i64 (k:Int)∧wr=w∧Hid (oks false (s.data.toList.take k)=true)) (fun vk _=>s.size - (intOf vk).toNat)
  case atStart=>exact⟨0,Nat.zero_le _,rfl,rfl,rfl⟩
  case round =>
   obtain⟨k,hk,rfl,rfl,HO⟩:=hrel
   by_cases hlt:k<s.size
   ·obtain ⟨c,hc⟩:∃c,s[k]=c:=⟨_,rfl⟩
    have hkl:k<s.data.toList.length:=by rw[pY.out];exact hlt
    have hcl:s.data.toList[k]=c:=hc
    cases hf:JU false c with
    |true=>
     have HE:Hid (H=.tuple #[.string (strOf []),.bool false]):=by
      show _=_
      rw[HH.out]
      unfold zA
      rw[GU false _ k hkl (by rw[hcl];unfold okb;rw[hf];rfl)]
      rfl
     have hfc:=fun w=>qV c false w
     rw[hf]at hfc
     have HF:=hid hfc
     clear hkl hcl hf hfc
     go_wp2_with fail
     refine(HF.out _).mono ?_
     rintro e w2 ⟨rfl,rfl⟩
     go_wp2
     go_ret2
     exact⟨by rw[HE.out];rfl,Below.refl _ _⟩
    |false=>
     have HN:Hid (oks false (s.data.toList.take (k+1))=true):=by
      show _=_
      rw[qX false _ k hkl,HO.out,hcl]
      unfold okb
      rw[hf]
      rfl
     have hfc:=fun w=>qV c false w
     rw[hf]at hfc
     have HF:=hid hfc
     clear hkl hcl hf hfc
     go_wp2_with fail
     refine(HF.out _).mono ?_
     rintro e w2 ⟨rfl,rfl⟩
     go_wp2
     go_roundw
     case rel=>exact⟨k+1,by omega,by go_num,by first|rfl|trivial,HN.out⟩
     case measure=>simp[intOf];omega
   have hO:oks false s.data.toList=true:=by
    have:=HO.out
    rw[List.take_of_length_le (by rw[pY.out];omega)]at this
    exact this
   obtain⟨R,hR⟩:∃R:ByteArray,R=strOf (FM.enc 0 s.data.toList):=⟨_,rfl⟩
   have HE:Hid (H=.tuple #[.string R,.bool true]):=by
    show _=_
    rw[HH.out]
    unfold zA
    rw[if_pos hO,hR]
    rfl
   have HR:=hid hR
   have hcv:=fun(w:World) s=>run_bytes_of_string (P:=Tryz.prog) w 9 45 5 s Tryz.underlying9 Tryz.underlying45 Tryz.underlying5
   clear hO HO HH hR
   go_wp2_with fail
   clear hcv
   refine(FM.eF 0 _ _ _ s.data.toList _ (fV s _ wr _) (by omega)).mono ?_
   rintro e w3 ⟨rfl,hb3⟩
   rw[←HR.out]
   go_wp2
   go_ret2
   exact⟨by rw[HE.out];rfl,bel (((Below.refl wr.heap.size wr).alloc (Nat.le_refl _) _).drew) hb3⟩
end Go.Proofs.YtgamccijegollaaGreatDoor.sU
