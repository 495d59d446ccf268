/- Texts that belong together: WZ, Gn, Zz, ajm, acU, RefS, CV, qg, IdxM, OW, NG. -/
import Derived.Test.YtgamccijegollaaGreatDoorFNAAJ
import Derived.Test.YtgamccijegollaaGreatDoorFNAAA
import Derived.Test.YtgamccijegollaaGreatDoorFNAAD
import Derived.Test.YtgamccijegollaaGreatDoorShelf
import Derived.Test.YtgamccijegollaaGreatDoorFNAAF
import Derived.IntWalk
import Derived.Deep.QuietTactic
import Derived.BigQuiet
import Derived.Lib.TrimUEq
import Derived.Laws.RangeAny
import Derived.Laws.Runes
import Derived.Deep.LoopGhost
import Derived.WalkMore
import Derived.Deep.DeepCutAuto
import Derived.Deep.CutBlock
set_option linter.unusedSimpArgs false
set_option linter.unusedVariables false
set_option maxRecDepth 100000
set_option maxHeartbeats 64000000
namespace Go.Proofs.YtgamccijegollaaGreatDoor.WZ
open Go.RowKit Base Dp pU
theorem drop_at (s:ByteArray) (k:Nat) (h:k<s.size):s.data.toList.drop k=s[k]::s.data.toList.drop (k+1):=by
 have h':k<s.data.toList.length:=by rw[Array.length_toList];exact h
 rw[List.drop_eq_getElem_cons h']
 rfl
theorem empty_of (s:ByteArray) (h:s.size=0):s=strOf []:=by
 have:s.data.toList=[]:=List.eq_nil_of_length_eq_zero (by rw[Array.length_toList];exact h)
 rw[←aG s,this]
theorem toList_eq (s:ByteArray) (h:s.size=0):s.toList=[]:=by
 rw[empty_of s h,strOf,ByteArray.toList_mk]
theorem l9 (s:ByteArray) (h:0<s.size):s.toList.isEmpty=false:=by
 rw[Lib.toList_data]
 cases e:s.data.toList with
 |nil=>have:s.data.toList.length=s.size:=Array.length_toList;rw[e]at this;simp at this;omega
 |cons _ _=>rfl
theorem lQ (s:ByteArray) (h:0<s.size):(s.toList==[])=false:=by
 have:=l9 s h
 cases e:s.toList with
 |nil=>rw[e]at this;cases this
 |cons _ _=>rfl
theorem ne34 (c:UInt8) (h:¬(c.toNat:Int)=34):c≠34:=fun e=>h (by rw[e];rfl)
theorem ne92 (c:UInt8) (h:¬(c.toNat:Int)=92):c≠92:=fun e=>h (by rw[e];rfl)
theorem Dl (c d:UInt8) (h:(c.toNat:Int)=(d.toNat:Int)):c=d:=UInt8.toNat_inj.1 (by omega)
theorem aer (s:ByteArray) (w:World) (hs:s.size≤1073741824):
  Calls Tryz.prog 341 #[.string s] w fun e w'=>e=.returned (.tuple #[.string (strOf (jT s.data.toList).1),.int .i64 (((jT s.data.toList).2:Nat):Int)])∧Below w.heap.size w w':=by
 have hl:s.data.toList.length=s.size:=Array.length_toList
 have HL:=hid hl
 clear hl
 obtain⟨i0,hi,hz0,hz1,hz2⟩:=info_parts iR
 rcases Nat.eq_zero_or_pos s.size with h0|h0
 ·have HE:Hid (jT s.data.toList=([],0)):=by rw[empty_of s h0];exact rfl
  have e0:=toList_eq s h0
  clear HL h0 hs
  go_enter Tryz.func341,Tryz.ntmps341
  go_wp2
  go_ret2
  rw[HE.out]
  exact⟨rfl,Below.refl _ _⟩
 ·have e0 := l9 s h0
  have e0':=lQ s h0
  obtain⟨c,hc⟩:∃c,s[0]=c:=⟨_,rfl⟩
  have HD0:Hid (s.data.toList=c::s.data.toList.drop 1):=by
   have:=drop_at s 0 h0
   rw[hc]at this
   exact this
  by_cases IL:(c.toNat:Int)=34
  ·have e1:((c.toNat:Int) !=34)=false:=by simp[IL]
   have HQ:Hid (jT s.data.toList=((qd (s.data.toList.drop 1)).1,(qd (s.data.toList.drop 1)).2+1)):=by
    show _=_
    rw[HD0.out,jT,if_pos (Dl c 34 IL)]
    rfl
   clear HD0 IL
   go_enter Tryz.func341,Tryz.ntmps341
   go_wp2
   go_loopw [4,5] (fun v vk wr=>∃(j:Nat) (X:List UInt8),1≤j∧j≤s.size∧X.length≤j∧vk=.int .i64 j∧wr.ownsRow w.heap.size 5 1 v X.length (ah X)∧Hid (qd (s.data.toList.drop 1)=(X++(qd (s.data.toList.drop j)).1,j - 1+(qd (s.data.toList.drop j)).2))∧Below w.heap.size w wr) (fun _ vk _=>s.size - (intOf vk).toNat)
   case atStart=>exact⟨1,[],Nat.le_refl _,h0,Nat.zero_le _,rfl,World.ownsRow_nil _ _ _ _,by show _=_;simp,Below.refl _ _⟩
   case round=>
    clear e1 hc e0 e0'
    obtain⟨j,X,hj1,hj,hX,rfl,hown,HQQ,hbel⟩:=hrel
    by_cases hlt:j<s.size
    ·obtain ⟨c,hc⟩:∃c,s[j]=c:=⟨_,rfl⟩
     have HC:Hid (s.data.toList.drop j=c::s.data.toList.drop (j+1)):=by
      have:=drop_at s j hlt
      rw[hc]at this
      exact this
     by_cases IL:(c.toNat:Int)=34
     ·have e1:((c.toNat:Int)==34)=true:=by simp[IL]
      have HV:Hid (jT s.data.toList=(X,j+1)):=by
       show _=_
       rw[HQ.out,HQQ.out,HC.out,Dl c 34 IL,aen]
       refine Prod.ext (by simp) ?_
       show j - 1+1+1=j+1
       omega
      clear IL
      obtain⟨A,cp,rfl,_,_,hrd⟩:=aJ hown
      have hst:=aF 45 9 5 Tryz.underlying45 Tryz.underlying5 Tryz.underlying9 _ cp hrd
      go_wp2
      go_ret2
      rw[HV.out]
      exact⟨rfl,hbel⟩
     ·have e1:((c.toNat:Int)==34)=false:=by simp[IL]
      by_cases h92:(c.toNat:Int)=92∧j+1<s.size
      ·obtain⟨h92,hlt2⟩:=h92
       have e2:((c.toNat:Int)==92)=true:=by simp[h92]
       have hlt2':(j:Int)+1<(s.size:Int):=by omega
       obtain⟨d,hd⟩:∃d,s[j+1]=d:=⟨_,rfl⟩
       have HC2:Hid (s.data.toList.drop (j+1)=d::s.data.toList.drop (j+2)):=by
        have:=drop_at s (j+1) hlt2
        rw[hd]at this
        exact this
       have HV:Hid (qd (s.data.toList.drop 1)=((X++[d])++(qd (s.data.toList.drop (j+2))).1,j+2 - 1+(qd (s.data.toList.drop (j+2))).2)):=by
        show _=_
        rw[HQQ.out,HC.out,HC2.out,Dl c 92 h92,aeo]
        refine Prod.ext (by simp) ?_
        simp only
        omega
       clear IL h92
       have ht:((j:Int)+1).toNat=j+1:=by omega
       go_wp2_with (at_builtin;refine aQ rfl _ _ 45 rfl w.heap.size 5 i0 (.int .u8 0) 1 Tryz.underlying45 hi hz0 hz1 hz2 rfl _ X.length _ rfl hown hbel hbel.size [.int .u8 (d.toNat:Int)] 1 rfl rfl (by intro u hu;simp at hu;subst hu;rfl) (by unfold maxLen;omega) (by omega) ?_)
       intro v' w3 hown3 dG
       clear hown hbel
       go_wp2
       go_roundw
       case rel=>exact⟨j+2,X++[d],by omega,by omega,by simp;omega,by rw[show((j+2:Nat):Int)=(j:Int)+1+1 by omega],by rw[aS,List.length_append];exact hown3,HV,dG⟩
       case measure=>simp[intOf];omega
      ·have HV:Hid (qd (s.data.toList.drop 1)=((X++[c])++(qd (s.data.toList.drop (j+1))).1,j+1 - 1+(qd (s.data.toList.drop (j+1))).2)):=by
        show _=_
        by_cases hq:(c.toNat:Int)=92
        ·have hn:j+1=s.size:=by omega
         have e:s.data.toList.drop (j+1)=[]:=by rw[hn,←HL.out,List.drop_length]
         rw[HQQ.out,HC.out,e,Dl c 92 hq,agc]
         refine Prod.ext (by simp[qd]) ?_
         simp[qd]
         omega
        ·rw[HQQ.out,HC.out,Rk c _ (ne34 c IL) (ne92 c hq)]
         refine Prod.ext (by simp) ?_
         simp only
         omega
       have hcase:((c.toNat:Int)==92)=false∨(((c.toNat:Int)==92)=true∧¬((j:Int)+1<(s.size:Int))):=by
        by_cases hq:(c.toNat:Int)=92
        ·exact .inr ⟨by simp[hq],by omega⟩
        ·exact .inl (by simp[hq])
       clear IL h92
       rcases hcase with e2|⟨e2,e3⟩
       all_goals
        go_wp2_with (at_builtin;refine aQ rfl _ _ 45 rfl w.heap.size 5 i0 (.int .u8 0) 1 Tryz.underlying45 hi hz0 hz1 hz2 rfl _ X.length _ rfl hown hbel hbel.size [.int .u8 (c.toNat:Int)] 1 rfl rfl (by intro u hu;simp at hu;subst hu;rfl) (by unfold maxLen;omega) (by omega) ?_)
        intro v' w3 hown3 dG
        clear hown hbel
        go_wp2
        go_roundw
        case rel=>exact⟨j+1,X++[c],by omega,by omega,by simp;omega,by go_num,by rw[aS,List.length_append];exact hown3,HV,dG⟩
        case measure=>simp[intOf];omega
    ·obtain rfl:j=s.size:=by omega
     have HV:Hid (jT s.data.toList=(X,s.size)):=by
      show _=_
      rw[HQ.out,HQQ.out,show s.data.toList.drop s.size=[]by rw[←HL.out,List.drop_length]]
      refine Prod.ext (by simp[qd]) ?_
      simp[qd]
      omega
     obtain⟨A,cp,rfl,_,_,hrd⟩:=aJ hown
     have hst:=aF 45 9 5 Tryz.underlying45 Tryz.underlying5 Tryz.underlying9 _ cp hrd
     go_wp2
     go_ret2
     rw[HV.out]
     exact⟨rfl,hbel⟩
  ·have e1:((c.toNat:Int) !=34)=true:=by simp[IL]
   have HQ:Hid (jT s.data.toList=([],0)):=by
    show _=_
    rw[HD0.out,jT,if_neg (ne34 c IL)]
   clear HD0 IL
   go_enter Tryz.func341,Tryz.ntmps341
   go_wp2
   go_ret2
   rw[HQ.out]
   exact⟨rfl,Below.refl _ _⟩
end Go.Proofs.YtgamccijegollaaGreatDoor.WZ
namespace Go.Proofs.YtgamccijegollaaGreatDoor.Gn
open Go.RowKit Base Dp dI pU WZ
theorem tch_no (c:UInt8) (h1:letter c.toNat=false) (h2:digit c.toNat=false) (h3:decide (Lib.indexByte marks c<0)=true):FX c=false:=by
 rw[EM]at h3
 unfold FX
 rw[h1,h2]
 simpa using h3
theorem tch_yes (c:UInt8) (h:letter c.toNat=true∨digit c.toNat=true∨decide (Lib.indexByte marks c<0)=false):FX c=true:=by
 unfold FX
 rcases h with h|h|h
 ·simp[h]
 ·simp[h]
 rw[EM]at h
 simp at h
 simp[h]
theorem QC (s:ByteArray) (w:World) (hs:s.size≤1073741824):
  Calls Tryz.prog 107 #[.string s] w fun e w'=>e=.returned (.bool (dP s.data.toList))∧w=w':=by
 have hl:s.data.toList.length=s.size:=Array.length_toList
 have HL:=hid hl
 clear hl
 go_enter Tryz.func107,Tryz.ntmps107
 go_wp2
 go_loop [3] (fun vk=>∃j:Nat,j≤s.size∧vk=.int .i64 j∧Hid (s.data.toList.all FX=(s.data.toList.drop j).all FX)) (fun vk=>s.size - (intOf vk).toNat)
 case atStart=>exact⟨0,Nat.zero_le _,rfl,rfl⟩
 case round =>
  obtain⟨j,hj,rfl,HT⟩:=hrel
  by_cases hlt:j<s.size
  ·obtain ⟨c,hd⟩:∃d,s[j]=d:=⟨_,rfl⟩
   have HC:Hid (s.data.toList.drop j=c::s.data.toList.drop (j+1)):=by
    have:=drop_at s j hlt
    rw[hd]at this
    exact this
   have hix:=fun w=>Tryz.strings_IndexByte ⟨#[33,35,36,37,38,39,42,43,45,46,94,95,96,124,126]⟩ (c.toNat:Int) w
   rw[show((c.toNat:Int).toNat.toUInt8)=c by simp]at hix
   have YN:=hid hix
   clear hix
   obtain⟨z,hz⟩:∃z,z=Lib.indexByte marks c:=⟨_,rfl⟩
   have HZ:=hid hz
   have hzr: -1≤z:=by rw[hz];exact Lib.indexByte_ge _ _
   clear hz
   have hcase:(letter c.toNat=true∨letter c.toNat=false∧digit c.toNat=true∨letter c.toNat=false∧digit c.toNat=false∧0≤z)∨(letter c.toNat=false∧digit c.toNat=false∧z<0):=by
    cases letter c.toNat<;>cases digit c.toNat<;>simp<;>omega
   rcases hcase with h|⟨h1,h2,h3⟩
   ·have HV:Hid (s.data.toList.all FX=(s.data.toList.drop (j+1)).all FX):=by
     show _=_
     rw[HT.out,HC.out,List.all_cons,tch_yes c (by rcases h with h|⟨_,h⟩|⟨_,_,h⟩;exact .inl h;exact .inr (.inl h);exact .inr (.inr (by rw[←HZ.out];simp;omega))),Bool.true_and]
    rcases h with h|⟨h1,h2⟩|⟨h1,h2,h3⟩
    ·have H1:=hid h
     clear h
     go_wp2_with fail
     refine(dN _ _).mono ?_
     rintro e w2 ⟨rfl,rfl⟩
     rw[H1.out]
     go_wp2_with fail
     go_round
     case rel=>exact⟨j+1,by omega,by go_num,HV⟩
     case measure=>simp[intOf];omega
    ·have H1:=hid h1
     have H2:=hid h2
     clear h1 h2
     go_wp2_with fail
     refine(dN _ _).mono ?_
     rintro e w2 ⟨rfl,rfl⟩
     rw[H1.out]
     go_wp2_with fail
     refine(fE _ _).mono ?_
     rintro e w2 ⟨rfl,rfl⟩
     rw[H2.out]
     go_wp2_with fail
     go_round
     case rel=>exact⟨j+1,by omega,by go_num,HV⟩
     case measure=>simp[intOf];omega
    ·have H1:=hid h1
     have H2:=hid h2
     clear h1 h2
     go_wp2_with fail
     refine(dN _ _).mono ?_
     rintro e w2 ⟨rfl,rfl⟩
     rw[H1.out]
     go_wp2_with fail
     refine(fE _ _).mono ?_
     rintro e w2 ⟨rfl,rfl⟩
     rw[H2.out]
     go_wp2_with fail
     refine(YN.out _).mono ?_
     rintro e w2 ⟨rfl,rfl⟩
     rw[show Lib.indexByte (⟨#[33,35,36,37,38,39,42,43,45,46,94,95,96,124,126]⟩:ByteArray).data.toList c=z from HZ.out.symm]
     go_wp2_with fail
     go_round
     case rel=>exact⟨j+1,by omega,by go_num,HV⟩
     case measure=>simp[intOf];omega
   ·have HV:Hid (dP s.data.toList=false):=by
     show _=_
     rw[dP,HT.out,HC.out,List.all_cons,tch_no c h1 h2 (by rw[←HZ.out];simpa using h3),Bool.false_and,Bool.false_and]
    have H1:=hid h1
    have H2:=hid h2
    clear h1 h2
    go_wp2_with fail
    refine(dN _ _).mono ?_
    rintro e w2 ⟨rfl,rfl⟩
    rw[H1.out]
    go_wp2_with fail
    refine(fE _ _).mono ?_
    rintro e w2 ⟨rfl,rfl⟩
    rw[H2.out]
    go_wp2_with fail
    refine(YN.out _).mono ?_
    rintro e w2 ⟨rfl,rfl⟩
    rw[show Lib.indexByte (⟨#[33,35,36,37,38,39,42,43,45,46,94,95,96,124,126]⟩:ByteArray).data.toList c=z from HZ.out.symm]
    go_wp2_with fail
    go_ret
    rw[HV.out]
    exact⟨rfl,rfl⟩
  ·obtain rfl:j=s.size:=by omega
   have HV:Hid (dP s.data.toList= !s.toList.isEmpty):=by
    show _=_
    rw[dP,HT.out,←HL.out,List.drop_length,Lib.toList_data]
    rfl
   rcases Nat.eq_zero_or_pos s.size with h0|h0
   ·have e0:=toList_eq s h0
    have uQ:Hid (dP s.data.toList=false):=by rw[HV.out,e0];exact rfl
    go_wp2
    go_ret
    rw[uQ.out]
    exact⟨rfl,rfl⟩
   ·have e0:=l9 s h0
    have e0':=lQ s h0
    have uQ:Hid (dP s.data.toList=true):=by rw[HV.out,e0];exact rfl
    go_wp2
    go_ret
    rw[uQ.out]
    exact⟨rfl,rfl⟩
end Go.Proofs.YtgamccijegollaaGreatDoor.Gn
namespace Go.Proofs.YtgamccijegollaaGreatDoor.Zz
open Go.RowKit Base Dp pU WZ Gn
theorem anS (s:ByteArray) (w:World) (hs:s.size≤1073741824):
  Calls Tryz.prog 259 #[.string s] w fun e w'=>e=.returned (.string (strOf (ru s.data.toList)))∧Below w.heap.size w w':=by
 have hcon:Calls Tryz.prog 74 #[.string s,.string (strOf blanks)] w fun e w'=>e=.returned (.string (strOf (ru s.data.toList)))∧Below w.heap.size w w':=
  Tryz.strings_Trim_set s (strOf blanks) w (by omega) (by decide) (ascii_of_all (by decide))
 obtain⟨r,hr⟩:∃r,r=strOf (ru s.data.toList):=⟨_,rfl⟩
 rw[←hr]at hcon⊢
 clear hr
 go_enter Tryz.func259,Tryz.ntmps259
 go_wp2_with fail
 refine hcon.mono ?_
 rintro e w1 ⟨rfl,hb⟩
 go_wp2_with fail
 go_ret
 exact⟨rfl,hb⟩
theorem zi (s:ByteArray) (w:World) (hs:s.size≤1073741824):
  Calls Tryz.prog 260 #[.string s] w fun e w'=>e=.returned (.string (strOf (tr s.data.toList)))∧Below w.heap.size w w':=by
 have hcon:Calls Tryz.prog 172 #[.string s,.string (strOf blanks)] w fun e w'=>e=.returned (.string (strOf (tr s.data.toList)))∧Below w.heap.size w w':=
  Tryz.strings_TrimRight_set s (strOf blanks) w (by omega) (by decide) (ascii_of_all (by decide))
 obtain⟨r,hr⟩:∃r,r=strOf (tr s.data.toList):=⟨_,rfl⟩
 rw[←hr]at hcon⊢
 clear hr
 go_enter Tryz.func260,Tryz.ntmps260
 go_wp2_with fail
 refine hcon.mono ?_
 rintro e w1 ⟨rfl,hb⟩
 go_wp2_with fail
 go_ret
 exact⟨rfl,hb⟩
theorem ext_to (s:ByteArray) (k:Nat):s.extract 0 k=strOf (s.data.toList.take k):=by
 apply ByteArray.ext
 apply Array.ext'
 rw[ByteArray.data_extract]
 simp[strOf,Array.toList_extract,List.extract_eq_take_drop]
theorem ext_from (s:ByteArray) (k n:Nat) (h:n=s.size):s.extract k n=strOf (s.data.toList.drop k):=by
 subst h
 apply ByteArray.ext
 apply Array.ext'
 rw[ByteArray.data_extract]
 simp only[strOf,Array.toList_extract,List.extract_eq_take_drop]
 rw[List.take_of_length_le]
 rw[List.length_drop,Array.length_toList]
 exact Nat.le_refl _
end Go.Proofs.YtgamccijegollaaGreatDoor.Zz
namespace Go.Proofs.YtgamccijegollaaGreatDoor.ajm
open Go.RowKit Base Dp pU WZ Gn Zz
def YU (C L:List UInt8):List UInt8:=Lib.trimRightS L C
def tlS (C L:List UInt8):List UInt8:=Lib.trimLeftS L C
theorem Eo (C L:List UInt8) (c:UInt8):YU C (L++[c])=if C.contains c then YU C L else L++[c]:=by
 unfold YU Lib.trimRightS
 rw[List.reverse_append,List.reverse_singleton,List.singleton_append,List.dropWhile_cons]
 split
 ·rfl
 simp
theorem Si (C L:List UInt8) (c:UInt8):tlS C (c::L)=if C.contains c then tlS C L else c::L:=by
 unfold tlS Lib.trimLeftS
 rw[List.dropWhile_cons]
theorem Sv (C L:List UInt8):Lib.trimS L C=YU C (tlS C L):=by
 unfold Lib.trimS YU tlS Lib.trimRightS Lib.trimLeftS
 rw[alg,List.reverse_reverse]
theorem agu (C L:List UInt8):(YU C L).length≤L.length:=by
 unfold YU Lib.trimRightS
 rw[List.length_reverse]
 have:=(List.dropWhile_sublist (fun x=>C.contains x) (l:=L.reverse)).length_le
 simpa using this
theorem aiQ (C L:List UInt8):(Lib.trimS L C).length≤L.length:=by
 rw[Sv]
 refine Nat.le_trans (agu _ _) ?_
 unfold tlS Lib.trimLeftS
 exact(List.dropWhile_sublist _).length_le
end Go.Proofs.YtgamccijegollaaGreatDoor.ajm
namespace Go.Proofs.YtgamccijegollaaGreatDoor.acU
open Go.RowKit Base qh BI
def Cc (r:Int):Prop:=0≤r∧r≤1114111∧¬(55296≤r∧r≤57343)
instance (r:Int):Decidable (Cc r):=by unfold Cc;exact inferInstance
def u (x:Int):UInt8:=x.toNat.toUInt8
theorem jw (x:Int) (h0:0≤x) (h1:x≤255):((u x).toNat:Int)=x:=by
 unfold u
 simp
 omega
theorem enc1 (r:Int) (h0:0≤r) (h1:r≤127):Lib.encodeRune r=[u r]:=by unfold Lib.encodeRune;rw[Lib.encodeRuneZ_one h0 h1];rfl
theorem enc2 (r:Int) (h0:128≤r) (h1:r≤2047):Lib.encodeRune r=[u (192+r / 64),u (128+r%64)]:=by unfold Lib.encodeRune;rw[Lib.encodeRuneZ_two h0 h1];rfl
theorem enc3 (r:Int) (h:(2048≤r∧r<55296)∨(57343<r∧r≤65535)):Lib.encodeRune r=[u (224+r / 4096),u (128+r / 64%64),u (128+r%64)]:=by unfold Lib.encodeRune;rw[Lib.encodeRuneZ_three h];rfl
theorem enc4 (r:Int) (h0:65536≤r) (h1:r≤1114111):Lib.encodeRune r=[u (240+r / 262144),u (128+r / 4096%64),u (128+r / 64%64),u (128+r%64)]:=by unfold Lib.encodeRune;rw[Lib.encodeRuneZ_four h0 h1];rfl
theorem u_of (c:UInt8):u (c.toNat:Int)=c:=by unfold u;simp
theorem Ur (x:Int) (c:UInt8) (h:x=(c.toNat:Int)):u x=c:=by rw[h,u_of]
theorem sF (x:UInt8) (t:List UInt8):
  ((rd (x::t)).2.2=true→Cc (rd (x::t)).1∧Lib.encodeRune (rd (x::t)).1=(x::t).take (rd (x::t)).2.1.toNat)∧((rd (x::t)).2.2=false→(rd (x::t)).1=65533):=by
 have hx:(x.toNat:Int)<256:=by have:=x.toNat_lt;omega
 simp only[rd]
 by_cases a:(x.toNat:Int)≤127
 ·rw[if_pos a]
  refine⟨fun _=>⟨by unfold Cc;simp only;omega,?_⟩,fun h=>by cases h⟩
  simp only
  rw[enc1 _ (by omega) a,u_of]
  rfl
 rw[if_neg a]
 by_cases b:(x.toNat:Int)≤193∨245≤(x.toNat:Int)
 ·rw[if_pos b]
  exact⟨(fun h=>by cases h),fun _=>rfl⟩
 rw[if_neg b]
 by_cases c2:(x.toNat:Int)≤223
 ·rw [if_pos c2]
  have el:lo x.toNat=128:=by unfold lo;(repeat' split)<;>omega
  have eh:hi x.toNat=191:=by unfold hi;(repeat' split)<;>omega
  match t with
  |[]=>simp[tail]
  |y::t=>
   have hy:(y.toNat:Int)<256:=by have:=y.toNat_lt;omega
   rw[tail,el,eh]
   by_cases d:(y.toNat:Int)<128∨191<(y.toNat:Int)
   ·rw[if_pos d];exact⟨(fun h=>by cases h),fun _=>rfl⟩
   ·rw[if_neg d,tail]
    refine⟨fun _=>⟨by unfold Cc;simp only;omega,?_⟩,fun h=>by cases h⟩
    simp only
    rw[enc2 _ (by omega) (by omega),Ur _ x (by omega),Ur _ y (by omega)]
    rfl
 rw[if_neg c2]
 by_cases c3:(x.toNat:Int)≤239
 ·rw [if_pos c3]
  match t with
  |[]=>simp[tail]
  | y ::t=>
   have hy:(y.toNat:Int)<256:=by have:=y.toNat_lt;omega
   rw[tail]
   by_cases d:(y.toNat:Int)<lo x.toNat∨hi x.toNat<(y.toNat:Int)
   ·rw[if_pos d];exact⟨(fun h=>by cases h),fun _=>rfl⟩
   ·rw [if_neg d]
    have hd:128≤(y.toNat:Int)∧(y.toNat:Int)≤191∧((x.toNat:Int)=224→160≤(y.toNat:Int))∧((x.toNat:Int)=237→(y.toNat:Int)≤159):=by
     unfold lo hi at d
     (repeat' split at d)<;>omega
    match t with
    |[]=>simp[tail]
    |z::t=>
     have hz:(z.toNat:Int)<256:=by have:=z.toNat_lt;omega
     rw[tail]
     by_cases f:(z.toNat:Int)<128∨191<(z.toNat:Int)
     ·rw[if_pos f];exact⟨(fun h=>by cases h),fun _=>rfl⟩
     ·rw[if_neg f,tail]
      refine⟨fun _=>⟨by unfold Cc;simp only;omega,?_⟩,fun h=>by cases h⟩
      simp only
      rw[enc3 _ (by omega),Ur _ x (by omega),Ur _ y (by omega),Ur _ z (by omega)]
      rfl
 ·rw [if_neg c3]
  match t with
  |[]=>simp[tail]
  | y :: t =>
   have hy:(y.toNat:Int)<256:=by have:=y.toNat_lt;omega
   rw[tail]
   by_cases d:(y.toNat:Int)<lo x.toNat∨hi x.toNat<(y.toNat:Int)
   ·rw[if_pos d];exact⟨(fun h=>by cases h),fun _=>rfl⟩
   ·rw [if_neg d]
    have hd:128≤(y.toNat:Int)∧(y.toNat:Int)≤191∧((x.toNat:Int)=240→144≤(y.toNat:Int))∧((x.toNat:Int)=244→(y.toNat:Int)≤143):=by
     unfold lo hi at d
     (repeat' split at d)<;>omega
    match t with
    |[]=>simp[tail]
    | z ::t=>
     have hz:(z.toNat:Int)<256:=by have:=z.toNat_lt;omega
     rw[tail]
     by_cases f:(z.toNat:Int)<128∨191<(z.toNat:Int)
     ·rw[if_pos f];exact⟨(fun h=>by cases h),fun _=>rfl⟩
     ·rw [if_neg f]
      match t with
      |[]=>simp[tail]
      |v::t=>
       have hv:(v.toNat:Int)<256:=by have:=v.toNat_lt;omega
       rw[tail]
       by_cases g:(v.toNat:Int)<128∨191<(v.toNat:Int)
       ·rw[if_pos g];exact⟨(fun h=>by cases h),fun _=>rfl⟩
       ·rw[if_neg g,tail]
        refine⟨fun _=>⟨by unfold Cc;simp only;omega,?_⟩,fun h=>by cases h⟩
        simp only
        rw[enc4 _ (by omega) (by omega),Ur _ x (by omega),Ur _ y (by omega),Ur _ z (by omega),Ur _ v (by omega)]
        rfl
theorem adp (r:Int) (t:List UInt8):Lib.encodeRune r++t≠[]:=by
 intro h
 have:=Jy r
 have e:=congrArg List.length h
 simp at e
 rw[e.1]at this
 simp at this
theorem fA (r:Int) (l:List Int):enc (r::l)=Lib.encodeRune r++enc l:=by simp[enc]
theorem ae9:Cc 65533:=by decide
theorem afa:∀(n:Nat) (L:List UInt8),L.length≤n→∀r ∈ dec L,Cc r
 |_,[],_,r,h=>by simp[lT]at h
 |0,_::_,h,_,_=>by simp at h
 |n+1,x::t,hl,r,h=>by
  have hs:=nJ x t
  rw[iK,List.mem_cons]at h
  rcases h with rfl|h
  ·cases hw:(rd (x::t)).2.2
   ·rw[(sF x t).2 hw];exact ae9
   ·exact((sF x t).1 hw).1
  ·exact afa n _ (by simp only[List.length_drop,List.length_cons]at hl⊢;omega) r h
theorem zU (L:List UInt8):∀r ∈ dec L,Cc r:=afa _ L (Nat.le_refl _)
end Go.Proofs.YtgamccijegollaaGreatDoor.acU
namespace Go.Proofs.YtgamccijegollaaGreatDoor.RefS
open Go.RowKit Base Dp qh
def JV (t:List UInt8):Prop:=∀c ∈ t,128≤(c.toNat:Int)∧(c.toNat:Int)≤191
instance (t:List UInt8):Decidable (JV t):=by unfold JV;exact inferInstance
def Fv (x y:Int):Prop:=x=224∧y<160∨x=237∧159<y∨x=240∧y<144∨x=244∧143<y
instance (x y:Int):Decidable (Fv x y):=by unfold Fv;exact inferInstance
def bad (x:Int):List UInt8→Prop
 |[]=>False
 |y::_=>Fv x y.toNat
instance (x:Int) (t:List UInt8):Decidable (bad x t):=by cases t<;>unfold bad<;>exact inferInstance
end Go.Proofs.YtgamccijegollaaGreatDoor.RefS
namespace Go.Proofs.YtgamccijegollaaGreatDoor.CV
open Go.RowKit Base Dp pU WZ qh acU
theorem un (x:Int) (h0:0≤x) (h1:x≤255):(u x).toNat=x.toNat:=by have:=jw x h0 h1;omega
theorem Dj (r:Int) (h:Cc r) (t:List UInt8):Lib.decodeN (Lib.encodeRune r++t).length ((Lib.encodeRune r++t).getD 0 0).toNat ((Lib.encodeRune r++t).getD 1 0).toNat ((Lib.encodeRune r++t).getD 2 0).toNat ((Lib.encodeRune r++t).getD 3 0).toNat=(r.toNat,(Lib.encodeRune r).length):=by
 obtain⟨h0,h1,h2⟩:=h
 by_cases a:r≤127
 ·rw[enc1 r h0 a]
  simp only[List.cons_append,List.nil_append,List.getD_cons_zero,un r h0 (by omega),Lib.decodeN]
  rw[if_pos (by omega)]
  rfl
 by_cases b:r≤2047
 ·rw[enc2 r (by omega) b]
  simp only[List.cons_append,List.nil_append,List.getD_cons_zero,List.getD_cons_succ,un (192+r / 64) (by omega) (by omega),un (128+r%64) (by omega) (by omega),Lib.decodeN,List.length_cons,List.length_nil]
  rw[if_neg (by omega),if_pos (by omega),if_pos (by omega)]
  refine Prod.ext ?_ rfl
  simp only
  omega
 by_cases c:r≤65535
 ·rw[enc3 r (by omega)]
  simp only[List.cons_append,List.nil_append,List.getD_cons_zero,List.getD_cons_succ,un (224+r / 4096) (by omega) (by omega),un (128+r / 64%64) (by omega) (by omega),un (128+r%64) (by omega) (by omega),Lib.decodeN,List.length_cons,List.length_nil]
  rw[if_neg (by omega),if_neg (by omega),if_pos (by omega),if_pos (by omega)]
  refine Prod.ext ?_ rfl
  simp only
  omega
 rw[enc4 r (by omega) h1]
 simp only[List.cons_append,List.nil_append,List.getD_cons_zero,List.getD_cons_succ,un (240+r / 262144) (by omega) (by omega),un (128+r / 4096%64) (by omega) (by omega),un (128+r / 64%64) (by omega) (by omega),un (128+r%64) (by omega) (by omega),Lib.decodeN,List.length_cons,List.length_nil]
 rw[if_neg (by omega),if_neg (by omega),if_neg (by omega),if_pos (by omega),if_pos (by omega)]
 refine Prod.ext ?_ rfl
 simp only
 omega
theorem ahj (s:ByteArray) (pos:Nat) (h:pos<s.size) (hw:(rd (s.data.toList.drop pos)).2.2=true):
  ∃c z:Nat,Utf8.decode s pos=(c,z)∧(c:Int)=(rd (s.data.toList.drop pos)).1∧(z:Int)=(rd (s.data.toList.drop pos)).2.1∧c≤1114111:=by
 obtain⟨x,t,hL⟩:∃x t,s.data.toList.drop pos=x::t:=⟨_,_,drop_at s pos h⟩
 obtain⟨hC,hE⟩:=(sF x t).1 (by rw[←hL];exact hw)
 have hsz:=nJ x t
 have hpos:1≤(rd (x::t)).2.1.toNat:=by omega
 obtain⟨r,hr⟩:∃r,r=(rd (x::t)).1:=⟨_,rfl⟩
 obtain⟨z,hz⟩:∃z,z=(rd (x::t)).2.1.toNat:=⟨_,rfl⟩
 rw[←hr]at hC hE
 rw[←hz]at hE
 have hsplit:x::t=Lib.encodeRune r++(x::t).drop z:=by rw[hE,List.take_append_drop]
 have hlen:(Lib.encodeRune r).length=z:=by
  rw[hE,List.length_take,List.length_cons]
  omega
 have hd:=Dj r hC ((x::t).drop z)
 rw[←hsplit,hlen]at hd
 have hg:∀k,(x::t).getD k 0=s.data.toList.getD (pos+k) 0:=fun k=>by
  rw[←hL,List.getD_eq_getElem?_getD,List.getD_eq_getElem?_getD,List.getElem?_drop]
 have hl:(x::t).length=s.data.toList.length - pos:=by rw[←hL,List.length_drop]
 rw[hg,hg,hg,hg,hl,Nat.add_zero,←Lib.decode_N]at hd
 refine⟨r.toNat,z,hd,?_,?_,?_⟩
 ·rw[hL,←hr]
  have:=hC.1
  omega
 ·rw[hL]
  omega
 ·have:=hC.2.1
  omega
def qch (r:Int):Bool:=decide (r=9∨32≤r∧r≤126∨128≤r∧r≤255)
def quotable (L:List UInt8):Bool:=val L&&(dec L).all qch
theorem Jo (s : ByteArray) (w : World) (hs : s.size ≤ 1073741824) :
  Calls Tryz.prog 185 #[.string s] w fun e w'=>e=.returned (.bool (quotable s.data.toList))∧Below w.heap.size w w':=by
 have hl:s.data.toList.length=s.size:=Array.length_toList
 have HL:=hid hl
 clear hl
 have hcv:=fun(w:World) s=>run_bytes_of_string (P:=Tryz.prog) w 9 45 5 s Tryz.underlying9 Tryz.underlying45 Tryz.underlying5
 have Gh:Hid (s.size≤grownCap w s.size 0 5):=grownCap_ge w s.size 0 5
 cases hv:val s.data.toList
 ·have HV:Hid (quotable s.data.toList=false):=by show _=_;rw[quotable,hv,Bool.false_and]
  have HVV:=hid hv
  clear hv
  go_enter Tryz.func185,Tryz.ntmps185
  go_wp2_with fail
  refine(qh.fF _ s.size _ s.data.toList _ (fV s _ w 5) hs Gh.out).mono ?_
  rintro e w2 ⟨rfl,hb2⟩
  rw[HVV.out]
  clear hcv
  go_wp2_with fail
  go_ret
  rw[HV.out]
  exact⟨rfl,((Below.refl _ _).alloc (Nat.le_refl _) _).drew.trans (hb2.mono (by simp))⟩
 ·have HVV:=hid hv
  clear hv
  go_enter Tryz.func185,Tryz.ntmps185
  go_wp2_with fail
  refine(qh.fF _ s.size _ s.data.toList _ (fV s _ w 5) hs Gh.out).mono ?_
  rintro e w2 ⟨rfl,hb2⟩
  rw[HVV.out]
  clear hcv
  have hbel:Below w.heap.size w w2:=((Below.refl _ _).alloc (Nat.le_refl _) _).drew.trans (hb2.mono (by simp))
  clear hb2
  go_wp2_with fail
  go_loopw [] (fun wr=>∃pos:Nat,wr=w2.iter s pos∧pos≤s.size∧Hid (val (s.data.toList.drop pos)=true)∧Hid ((dec s.data.toList).all qch=(dec (s.data.toList.drop pos)).all qch)) (fun wr=>s.size - wr.iterPos w2.heap.size)
  case atStart=>exact⟨0,rfl,Nat.zero_le _,HVV.out,rfl⟩
  case round=>
   obtain⟨pos,rfl,hpos,OT,HQ⟩:=hrel
   by_cases hlt:pos<s.size
   ·have hvd:=ab5 s.data.toList pos (by rw[HL.out];exact hlt)
    rw[OT.out]at hvd
    have hvd':=hvd.symm
    rw[Bool.and_eq_true]at hvd'
    obtain⟨hw,hvn⟩:=hvd'
    obtain⟨c,z,hdec,hc,hz,hcm⟩:=ahj s pos hlt hw
    obtain⟨d1,d2,d3⟩:=Qc s.data.toList pos (by rw[HL.out];exact hlt)
    rw[←hz]at hvn d1 d2 d3
    rw[←hc]at d1
    simp only[Int.toNat_natCast]at hvn d1
    rw[HL.out]at d3
    have hz1:1≤z:=by omega
    have hz2:pos+z≤s.size:=by omega
    have HVN:=hid hvn
    have HD:=hid d1
    have hnx:∀ty,(Instr.next (.pointer (some ⟨w2.heap.size,0,none⟩)) true ty).run Tryz.prog (w2.iter s pos)=.ok (.tuple #[.bool true,.int .i64 pos,.int .i32 (c:Int)]) (w2.iter s (pos+z)):=fun ty=>by
     have:=run_next_any (P:=Tryz.prog) w2 s pos ty hlt
     rw[hdec]at this
     exact this
    clear hvd hw hvn hdec hc hz d1 d2 d3
    by_cases hq:(c:Int)=9∨32≤(c:Int)∧(c:Int)≤126∨128≤(c:Int)∧(c:Int)≤255
    ·have HQ2:Hid ((dec s.data.toList).all qch=(dec (s.data.toList.drop (pos+z))).all qch):=by
      show _=_
      rw[HQ.out,HD.out,List.all_cons,show qch (c:Int)=true by unfold qch;rw[decide_eq_true_iff];exact hq,Bool.true_and]
     rcases hq with h|⟨h1,h2⟩|⟨h1,h2⟩
     ·have e1:((c:Int) !=9)=false:=by simp[h]
      clear h
      go_wp2
      all_goals
       go_roundw
       case rel=>exact⟨pos+z,rfl,hz2,HVN,HQ2⟩
       case measure=>simp;omega
     ·have e1:((c:Int) !=9)=true:=by simp;omega
      go_wp2
      all_goals
       go_roundw
       case rel=>exact⟨pos+z,rfl,hz2,HVN,HQ2⟩
       case measure=>simp;omega
     ·have e1:((c:Int) !=9)=true:=by simp;omega
      go_wp2
      all_goals
       go_roundw
       case rel=>exact⟨pos+z,rfl,hz2,HVN,HQ2⟩
       case measure=>simp;omega
    ·have HF:Hid (quotable s.data.toList=false):=by
      show _=_
      rw[quotable,HQ.out,HD.out,List.all_cons,show qch (c:Int)=false by unfold qch;rw[decide_eq_false_iff_not];exact hq,Bool.false_and,Bool.and_false]
     have e1:((c:Int) !=9)=true:=by simp;omega
     have hcase:(c:Int)<32∨(c:Int)=127∨255<(c:Int):=by omega
     clear hq
     rcases hcase with h|h|h
     all_goals
      go_wp2
      all_goals
       go_ret
       rw[HF.out]
       exact⟨rfl,hbel.alloc hbel.size _⟩
   ·obtain rfl:pos=s.size:=by omega
    have HF:Hid (quotable s.data.toList=true):=by
     show _=_
     rw[quotable,HQ.out,←HL.out,List.drop_length,HVV.out]
     rfl
    have hnx:∀ty,(Instr.next (.pointer (some ⟨w2.heap.size,0,none⟩)) true ty).run Tryz.prog (w2.iter s s.size)=.ok (.tuple #[.bool false]) (w2.iter s s.size):=fun ty=>run_next_end w2 s s.size ty hlt
    go_wp2
    go_ret
    rw[HF.out]
    exact⟨rfl,hbel.alloc hbel.size _⟩
end Go.Proofs.YtgamccijegollaaGreatDoor.CV
namespace Go.Proofs.YtgamccijegollaaGreatDoor.qg
open Go.RowKit Base cO pU
def tw (st L:List UInt8):List UInt8:=L.takeWhile fun c=> !st.contains c
def dw (st L:List UInt8):List UInt8:=L.dropWhile fun c=> !st.contains c
theorem Wp (st L:List UInt8):tw st L++dw st L=L:=List.takeWhile_append_dropWhile
theorem agz (st L:List UInt8):tw st L=L.take (tw st L).length:=by
 have h:=congrArg (List.take (tw st L).length) (Wp st L)
 rw[List.take_append_of_le_length (Nat.le_refl _),List.take_length]at h
 exact h
theorem afl (st L:List UInt8):dw st L=L.drop (tw st L).length:=by
 have h:=congrArg (List.drop (tw st L).length) (Wp st L)
 rw[←h]
 simp
theorem amv (p:UInt8→Bool) (c:UInt8):∀L:List UInt8,c ∈ L.takeWhile p→p c=true
 |[],h=>by simp at h
 |x::L,h=>by
  rw[List.takeWhile_cons]at h
  split at h
  ·rename_i hx
   rcases List.mem_cons.1 h with rfl|h
   ·exact hx
   ·exact amv p c L h
  ·simp at h
theorem tw_no {st L:List UInt8} {c:UInt8} (h:c ∈ tw st L):st.contains c=false:=by
 unfold tw at h
 have:=amv _ c L h
 simpa using this
theorem dw_head {st L:List UInt8} {c:UInt8} {r:List UInt8} (h:dw st L=c::r):st.contains c=true:=by
 unfold dw at h
 have:=List.head_dropWhile_not (fun c=> !st.contains c) (l:=L) (by rw[h];simp)
 simp only[h,List.head_cons]at this
 simpa using this
theorem AY (st L:List UInt8):(tw st L).length≤L.length:=by
 have:=congrArg List.length (Wp st L)
 rw[List.length_append]at this
 omega
theorem zX (st L:List UInt8):(dw st L).length≤L.length:=by
 have:=congrArg List.length (Wp st L)
 rw[List.length_append]at this
 omega
theorem ahK (st L:List UInt8):Lib.indexAny L st=if dw st L=[]then -1 else((tw st L).length:Int):=by
 have hno:Lib.NoAny L st (tw st L).length:=fun j b hj hb=>by
  refine tw_no (st:=st) (L:=L) ?_
  obtain⟨hjl,e⟩:=List.getElem?_eq_some_iff.1 hb
  rw[agz,←e]
  exact List.mem_iff_getElem.2 ⟨j,by rw[List.length_take];omega,by rw[List.getElem_take]⟩
 have hl:=congrArg List.length (Wp st L)
 rw[List.length_append]at hl
 cases hd:dw st L with
 |nil=>
  rw[if_pos rfl]
  rw[hd]at hl
  exact Lib.indexAny_none (by rw[←hl];simpa using hno)
 |cons c r=>
  rw[if_neg (by simp)]
  refine Lib.indexAny_hit (x:=c) hno ?_ (dw_head hd)
  have h2:=afl st L
  rw[hd]at h2
  have h3:=congrArg (fun M:List UInt8=>M[0]?) h2
  simp only[List.getElem?_cons_zero,List.getElem?_drop,Nat.add_zero]at h3
  exact h3.symm
def vl (s:List UInt8):List UInt8×Bool×List UInt8:=
 if 0<(jT s).2 then((jT s).1,true,dw [59] (s.drop (jT s).2))else(tr (tw [59] s),decide (tr (tw [59] s)≠[]),dw [59] s)
def pm (s:List UInt8):Option (List UInt8×List UInt8)×List UInt8:=match dw [59,61] (tl s)with
 |[]=>(none,[])
 |c::r=>if c=59 then(none,c::r)else(if ((vl r).2.1&&dP (tw [59,61] (tl s))&&VW (vl r).1)=true then some (lower (tw [59,61] (tl s)),(vl r).1)else none,(vl r).2.2)
where VW (L:List UInt8):Bool:=CV.quotable L
def GH (n:List UInt8) (acc:List (List UInt8×List UInt8)):Bool:=acc.any fun p=>p.1==n
def Kt (acc:List (List UInt8×List UInt8)) (o:Option (List UInt8×List UInt8)):List (List UInt8×List UInt8):=match o with
 |none=>acc
 |some p=>if GH p.1 acc=true then acc else acc++[p]
def prF:Nat→List UInt8→List (List UInt8×List UInt8)→List (List UInt8×List UInt8)
 |0,_,acc=>acc
 |_+1,[],acc=>acc
 |n+1,_::t,acc=>prF n (pm t).2 (Kt acc (pm t).1)
theorem vl_len (s:List UInt8):(vl s).2.2.length≤s.length:=by
 unfold vl
 split
 ·have:=zX [59] (s.drop (jT s).2)
  rw[List.length_drop]at this
  show(dw [59] (s.drop (jT s).2)).length≤_
  omega
 exact zX [59] s
theorem Ya (s:List UInt8):(pm s).2.length≤s.length:=by
 have h1:=zX [59,61] (tl s)
 have h2:=Hl s
 unfold pm
 split
 ·simp
 rename_i c r h
 rw[h]at h1
 split
 ·show(c::r).length≤_
  omega
 have:=vl_len r
 show(vl r).2.2.length≤_
 simp at h1
 omega
theorem aa5:∀(n m:Nat) (r:List UInt8) (acc:List (List UInt8×List UInt8)),r.length≤n→r.length≤m→prF n r acc=prF m r acc
 |0,0,_,_,_,_=>rfl
 |0,_+1,[],_,_,_=>rfl
 |0,_+1,_::_,_,h,_=>by simp at h
 |_+1,0,[],_,_,_=>rfl
 |_+1,0,_::_,_,_,h=>by simp at h
 |_+1,_+1,[],_,_,_=>rfl
 |n+1,m+1,_::t,acc,h1,h2=>by
  have:=Ya t
  simp at h1 h2
  exact aa5 n m _ _ (by omega) (by omega)
def uj (r:List UInt8) (acc:List (List UInt8×List UInt8)):List (List UInt8×List UInt8):=prF r.length r acc
theorem aa7 (acc:List (List UInt8×List UInt8)):uj [] acc=acc:=rfl
theorem Lr (c:UInt8) (t:List UInt8) (acc:List (List UInt8×List UInt8)):uj (c::t) acc=uj (pm t).2 (Kt acc (pm t).1):=by
 unfold uj
 show prF t.length (pm t).2 (Kt acc (pm t).1)=_
 exact aa5 _ _ _ _ (Ya t) (Nat.le_refl _)
structure MT where
 ty:List UInt8
 sub:List UInt8
 ps:List (List UInt8×List UInt8)
def mime (s:List UInt8):Option MT:=match dw [47] (ru s)with
 |[]=>none
 |_::B=>if (dP (tw [47] (ru s))&&dP (tr (tw [59] B)))=true then some ⟨lower (tw [47] (ru s)),lower (tr (tw [59] B)),uj (dw [59] B) []⟩else none
end Go.Proofs.YtgamccijegollaaGreatDoor.qg
namespace Go.Proofs.YtgamccijegollaaGreatDoor.IdxM
open Go.RowKit Base Dp L6
theorem lK (w:World) (s:ByteArray) (p:Nat):Below w.heap.size w (w.iter s p):=(Below.refl _ _).alloc (Nat.le_refl _) _
theorem fF (r:Int) (w:World) (h0:128≤r):Calls Tryz.prog 318 #[.int .i32 r] w fun e w'=>e=.returned (.bool (validRune r))∧w=w':=by
 have q0:(0:Int)≤r:=by omega
 by_cases h1:r<55296
 ·have HV:Hid (validRune r=true):=decide_eq_true (.inl ⟨q0,h1⟩)
  go_enter Tryz.func318,Tryz.ntmps318
  go_wp2
  go_ret
  exact⟨ak HV.out.symm,rfl⟩
 by_cases h2:57343<r
 ·by_cases h3:r≤1114111
  ·have HV:Hid (validRune r=true):=decide_eq_true (.inr ⟨h2,h3⟩)
   go_enter Tryz.func318,Tryz.ntmps318
   go_wp2
   go_ret
   exact⟨ak HV.out.symm,rfl⟩
  have HV:Hid (validRune r=false):=decide_eq_false (by omega)
  go_enter Tryz.func318,Tryz.ntmps318
  go_wp2
  go_ret
  exact⟨ak HV.out.symm,rfl⟩
 have HV:Hid (validRune r=false):=decide_eq_false (by omega)
 go_enter Tryz.func318,Tryz.ntmps318
 go_wp2
 go_ret
 exact⟨ak HV.out.symm,rfl⟩
def two:ByteArray:=⟨#[59,61]⟩
theorem D7 (r : Int) (w : World) (h0 : 128 ≤ r) : Calls Tryz.prog 292 #[.string two, .int .i32 r] w fun e w' => e = .returned (.int .i64 (-1)) ∧ Below w.heap.size w w' := by
 have q0:(0:Int)≤r:=by omega
 have q1:¬r<128:=by omega
 obtain⟨T,hT⟩:∃T,T=two:=⟨_,rfl⟩
 have hsz:T.size=2:=by rw[hT];rfl
 have g0:∀h,T[0]'h=59:=by subst hT;intro h;rfl
 have g1:∀h,T[1]'h=61:=by subst hT;intro h;rfl
 rw[←hT]
 by_cases hE:r=65533
 ·subst hE
  have hn0:∀ty,(Instr.next (.pointer (some ⟨w.heap.size,0,none⟩)) true ty).run Tryz.prog (w.iter T 0)=.ok (.tuple #[.bool true,.int .i64 0,.int .i32 59]) (w.iter T 1):=fun ty=>by
   have:=run_next_ascii (P:=Tryz.prog) w T 0 ty (by omega) (by rw[g0];decide)
   rw[g0]at this
   exact this
  have hn1:∀ty,(Instr.next (.pointer (some ⟨w.heap.size,0,none⟩)) true ty).run Tryz.prog (w.iter T 1)=.ok (.tuple #[.bool true,.int .i64 1,.int .i32 61]) (w.iter T 2):=fun ty=>by
   have:=run_next_ascii (P:=Tryz.prog) w T 1 ty (by omega) (by rw[g1];decide)
   rw[g1]at this
   exact this
  have hn2:∀ty,(Instr.next (.pointer (some ⟨w.heap.size,0,none⟩)) true ty).run Tryz.prog (w.iter T 2)=.ok (.tuple #[.bool false]) (w.iter T 2):=fun ty=>run_next_end w T 2 ty (by omega)
  clear hT g0 g1 hsz
  go_enter Tryz.func292,Tryz.ntmps292
  go_wp2
  go_loopg [5,6] 2 (fun g _ _ wx=>∃i:Nat,i+g=2∧wx=w.iter T i)
  case atStart=>exact⟨0,rfl,rfl⟩
  case round=>
   obtain⟨i,hig,rfl⟩:=hrel
   cases gk with
   |zero=>
    obtain rfl:i=2:=by omega
    go_wp2
    go_ret
    exact⟨rfl,lK _ _ _⟩
   |succ g=>
    cases g with
    |zero=>
     obtain rfl:i=1:=by omega
     go_wp2
     go_roundg 0
     case measure=>omega
     case rel=>exact⟨2,rfl,rfl⟩
    |succ g=>
     obtain rfl:g=0:=by omega
     obtain rfl:i=0:=by omega
     go_wp2
     go_roundg 1
     case measure=>omega
     case rel=>exact⟨1,rfl,rfl⟩
 cases hv:validRune r with
 |false=>
  have HV:=hid hv
  clear hT g0 g1 hsz hv
  go_enter Tryz.func292,Tryz.ntmps292
  go_wp2_with fail
  refine(fF r _ h0).mono ?_
  rintro e w2 ⟨rfl,rfl⟩
  rw[HV.out]
  go_wp2
  go_ret
  exact⟨rfl,Below.refl _ _⟩
 | true =>
  have HV:=hid hv
  obtain⟨hE2,hE4,hEl⟩:=encode_facts r (by rw[validRune_eq];exact hv) h0
  obtain⟨E,hEE⟩:∃E,E=Utf8.encode r:=⟨_,rfl⟩
  rw[←hEE]at hE2 hE4 hEl
  have hcv:∀w:World,(convert 21 9 (.int .i32 r)).run Tryz.prog w=.ok (.string E) w:=fun w=>by
   rw[hEE]
   exact run_convert_int_string w _ _ .i32 r (by rw[Tryz.underlying21];rfl) Tryz.underlying9
  clear hT hv hEE
  by_cases h2:E.size=2
  ·obtain ⟨c,hc⟩:∃c,c=E[1]'(by omega):=⟨_,rfl⟩
   have hc128:128≤c.toNat:=by
    have:=hEl (by omega)
    rw[hc]
    have e:E.size - 1=1:=by omega
    simpa[e]using this
   have g92:=g1 (by omega)
   have hne:((61:Int) !=(c.toNat:Int))=true:=by simp;omega
   have HC:=hid hc128
   have hcE:E[1]'(by omega)=c:=hc.symm
   have hz:(E.size:Int) - 1=1:=by omega
   clear hEl hE2 hE4 hc hc128 g0
   go_enter Tryz.func292,Tryz.ntmps292
   go_wp2_with fail
   refine(fF r _ h0).mono ?_
   rintro e w2 ⟨rfl,rfl⟩
   rw[HV.out]
   go_wp2
   go_step3
   go_wp2
   go_loopg [9] 0 (fun _ s9 wx=>s9=.int .i64 1∧wx=w)
   case atStart=>exact⟨int_eq (by omega),rfl⟩
   case round =>
    obtain⟨rfl,rfl⟩:=hrel
    go_wp2
    go_step3
    go_wp2
    go_region
    go_wp2_with fail
    refine aV (by kernel_rfl) [is (.string T),is (.int .i64 1),is (.int .i64 2),is (.string ByteArray.empty),is (.string E),is (.int .i64 1),is (.int .u8 (c.toNat:Int)),is (.int .i64 (-1)),is (.int .i64 (-1))] [[],[],[1],[0,2],[],[],[4,5],[3,6],[7]] (by kernel_rfl) ?_ ?_
    ·refine ⟨?_,?_,?_,?_,?_,?_,?_,?_,?_,trivial⟩
     all_goals(intro t wq hbq hh K hK;simp only[filled,upd,Have,is,any,row,pick,Act.put,List.setIfInBounds_toArray,List.set_cons_zero,List.set_cons_succ,Nat.reduceAdd,Nat.reduceEqDiff,reduceIte,List.tail_cons,List.headD_cons]at hh hK⊢)
     iterate 2
      ·clear hh
       go_simp
       exact hK _ _ (Below.refl _ _) rfl
     ·have e1:=hh.1
      clear hh
      simp only[e1]at hK⊢
      go_simp
      first|exact hK _ _ (Below.refl _ _) rfl|exact hK _ _ (Below.refl _ _) (iC (by omega) (by omega))
     iterate 4
      ·try simp only[hh]at hK⊢
       clear hh
       go_simp
       exact hK _ _ (Below.refl _ _) rfl
     ·have e3:=hh.1
      have e6:=hh.2.1
      clear hh
      simp only[e3,e6]at hK⊢
      go_simp
      refine(Tryz.strings_IndexByte ByteArray.empty _ _).mono ?_
      rintro e wz ⟨rfl,hwz⟩
      subst hwz
      exact hK _ _ (Below.refl _ _) rfl
     try simp only[hh]at hK⊢
     clear hh
     go_simp
     exact hK _ _ (Below.refl _ _) rfl
    intro t wq hbq hh
    have f8:=aB hh 8 (by decide)
    simp only[pick]at f8
    replace f8:t 8=(.int .i64 (-1)):=f8
    clear hh
    simp only[filled,upd,Have,is,any,row,pick,Act.put,List.setIfInBounds_toArray,List.set_cons_zero,List.set_cons_succ,Nat.reduceAdd,Nat.reduceEqDiff,reduceIte]
    simp only[f8]
    go_wp2
    rw[Exit.noGoto_ret]
    go_simp
    go_ret
    exact⟨rfl,CY (Below.refl _ _) hbq⟩
  have h3:3≤E.size:=by omega
  clear hEl g0 g1 h2
  have q3:¬((E.size:Int) - 1<2):=by omega
  go_enter Tryz.func292,Tryz.ntmps292
  go_wp2_with fail
  refine(fF r _ h0).mono ?_
  rintro e w2 ⟨rfl,rfl⟩
  rw[HV.out]
  go_wp2
  go_step3
  go_wp2
  go_loopg [9] 0 (fun _ s9 wx=>s9=.int .i64 ((E.size:Int) - 1)∧wx=w)
  case atStart=>exact⟨rfl,rfl⟩
  case round=>
   obtain⟨rfl,rfl⟩:=hrel
   go_wp2
   rw[Exit.noGoto_ret]
   go_ret
   exact⟨rfl,Below.refl _ _⟩
theorem vJ (r:Int) (w:World) (h0:0≤r) (h1:r<128):Calls Tryz.prog 292 #[.string two,.int .i32 r] w fun e w'=>e=.returned (.int .i64 (Lib.indexByte two.data.toList r.toNat.toUInt8))∧w'=w:=Any.strings_IndexRune_ascii {Tryz.l153 with} two r w h0 h1
theorem far_no (c:UInt8) (h:128≤c.toNat):([59,61]:List UInt8).contains c=false:=by
 have h1:¬c=59:=by rintro rfl;exact absurd h (by decide)
 have h2:¬c=61:=by rintro rfl;exact absurd h (by decide)
 simp[h1,h2]
theorem Qq (s:ByteArray) (i:Nat) (h:i<s.size):(s.get! i)=s[i]'h:=by
 simp[ByteArray.get!,getElem!_pos,h]
 rfl
theorem wide (s:ByteArray) (i:Nat) (h:i<s.size) (ha:128≤(s[i]'h).toNat):i+(Utf8.decode s i).2≤s.size∧∀j (hj:j<s.size),i≤j→j<i+(Utf8.decode s i).2→128≤(s[j]'hj).toNat:=by
 have hn:¬(s[i]'h).toNat<128:=by omega
 have one:i+1≤s.size∧∀j (hj:j<s.size),i≤j→j<i+1→128≤(s[j]'hj).toNat:=⟨by omega,fun j hj h1 h2=>by
  obtain rfl:j=i:=by omega
  exact ha⟩
 simp only[Utf8.decode,get_at s i h,hn,if_false]
 have c1:∀k,(decide (i+k<s.size)&&(s.get! (i+k)).toNat / 64==2)=true→∃hk:i+k<s.size,128≤(s[i+k]'hk).toNat:=fun k hk=>by
  simp only[Bool.and_eq_true,decide_eq_true_eq,beq_iff_eq]at hk
  refine⟨hk.1,?_⟩
  have:=hk.2
  rw[Qq s _ hk.1]at this
  omega
 split
 ·rename_i h2
  simp only[Bool.and_eq_true]at h2
  obtain⟨k1,b1⟩:=c1 1 (by simpa using h2.2)
  split
  ·refine⟨by show i+2≤_;omega,fun j hj h1 h2=>?_⟩
   replace h2:j<i+2:=h2
   have:j=i∨j=i+1:=by omega
   rcases this with rfl|rfl
   ·exact ha
   exact b1
  exact one
 split
 ·rename_i h2
  simp only[Bool.and_eq_true]at h2
  obtain⟨k1,b1⟩:=c1 1 (by simpa using h2.1.2)
  obtain⟨k2,b2⟩:=c1 2 (by simpa using h2.2)
  split
  ·refine⟨by show i+3≤_;omega,fun j hj h1 h2=>?_⟩
   replace h2:j<i+3:=h2
   have:j=i∨j=i+1∨j=i+2:=by omega
   rcases this with rfl|rfl|rfl
   ·exact ha
   ·exact b1
   exact b2
  exact one
 split
 ·rename_i h2
  simp only[Bool.and_eq_true]at h2
  obtain⟨k1,b1⟩:=c1 1 (by simpa using h2.1.1.2)
  obtain⟨k2,b2⟩:=c1 2 (by simpa using h2.1.2)
  obtain⟨k3,b3⟩:=c1 3 (by simpa using h2.2)
  split
  ·refine⟨by show i+4≤_;omega,fun j hj h1 h2=>?_⟩
   replace h2:j<i+4:=h2
   have:j=i∨j=i+1∨j=i+2∨j=i+3:=by omega
   rcases this with rfl|rfl|rfl|rfl
   ·exact ha
   ·exact b1
   ·exact b2
   exact b3
  exact one
 exact one
def ZJ (w:World) (k:Nat) (s:ByteArray) (p:Nat):World:={w with heap:=w.heap.setIfInBounds k (.stringIter s p)}
theorem Pz (w:World) (k:Nat) (s:ByteArray) (p:Nat) (h:k<w.heap.size):(ZJ w k s p).heap[k]?=some (.stringIter s p):=by
 show(w.heap.setIfInBounds k _)[k]?=_
 simp[h]
theorem yC {w0 w:World} (h:Below w0.heap.size w0 w) (s:ByteArray) (p:Nat):Below w0.heap.size w0 (ZJ w w0.heap.size s p):=
 ⟨h.os,h.tape,h.output,by show _≤(w.heap.setIfInBounds _ _).size;simpa using h.size,fun k hk=>by
  show(w.heap.setIfInBounds _ _)[k]?=_
  rw[Array.getElem?_setIfInBounds_ne (by omega)]
  exact h.block k hk⟩
theorem next_any {P:Program} (w:World) (k:Nat) (s:ByteArray) (pos:Nat) (ty:TypeId) (hk:w.heap[k]?=some (.stringIter s pos)) (h:pos<s.size):
  (Instr.next (.pointer (some ⟨k,0,none⟩)) true ty).run P w=.ok (.tuple #[.bool true,.int .i64 pos,.int .i32 (Utf8.decode s pos).1]) (ZJ w k s (pos+(Utf8.decode s pos).2)):=by
 simp only[Instr.next,getObj,setObj,Sem.run_bind,Sem.run,hk,Result.andThen,h,if_true]
 simp[goInt,ZJ]
theorem DI {P:Program} (w:World) (k:Nat) (s:ByteArray) (pos:Nat) (ty:TypeId) (hk:w.heap[k]?=some (.stringIter s pos)) (h:¬pos<s.size):
  (Instr.next (.pointer (some ⟨k,0,none⟩)) true ty).run P w=.ok (.tuple #[.bool false]) w:=by
 simp[Instr.next,getObj,Sem.run,hk,h]
theorem short_any (s:ByteArray) (w:World) (h8:s.size≤8):
  Calls Tryz.prog 280 #[.string s,.string two] w fun e w'=>e=.returned (.int .i64 (Lib.indexAny s.data.toList [59,61]))∧Below w.heap.size w w':=by
 have hemp:two.toList.isEmpty=false:=by unfold two;rw[ByteArray.toList_mk];rfl
 have hsz2:((two.size:Int)==1)=false:=rfl
 have h8z:decide ((8:Int)<(s.size:Int))=false:=decide_eq_false (by omega)
 have hL:s.data.toList.length=s.size:=Array.length_toList
 have HL:=hid hL
 clear hL
 have Du:=vJ
 have Dw:=D7
 obtain⟨T,hT⟩:∃T,T=two:=⟨_,rfl⟩
 rw[←hT]at Du Dw
 have MB:=hid Du
 have Zg:=hid Dw
 clear Du Dw
 rw[←hT]at hemp hsz2⊢
 have HT:=hid hT
 clear hT
 go_enter Tryz.func280,Tryz.ntmps280
 go_wp2_with fail
 refine(Any.strings_shouldUseASCIISet {Tryz.l153 with} _ _).mono ?_
 rintro e w2 ⟨rfl,hw2⟩
 subst hw2
 rw[h8z]
 go_wp2
 go_loopg [9,10] s.size (fun g _ _ wx=>∃i:Nat,i≤s.size∧s.size≤i+g∧wx.heap[w2.heap.size]?=some (.stringIter s i)∧Hid (Below w2.heap.size w2 wx)∧Hid (Lib.NoAny s.data.toList [59,61] i))
 case atStart=>exact⟨0,Nat.zero_le _,by omega,World.iter_heap _ _ _,lK _ _ _,Lib.NoAny.zero _ _⟩
 case round=>
  obtain⟨i,hile,hig,hit,HB,HN⟩:=hrel
  have FD:w2.heap.size<wr.heap.size:=(Array.getElem?_eq_some_iff.1 hit).1
  by_cases hi:i<s.size
  ·obtain ⟨g,rfl⟩:∃g,gk=g+1:=⟨gk - 1,by omega⟩
   obtain⟨x,hx⟩:∃x:UInt8,s[i]'hi=x:=⟨_,rfl⟩
   have hxl:s.data.toList[i]?=some x:=by rw[←hx];exact Lib.data_getElem? s i hi
   have hnx:=fun ty=>next_any (P:=Tryz.prog) wr w2.heap.size s i ty hit hi
   obtain⟨r,hr⟩:∃r:Nat,r=(Utf8.decode s i).1:=⟨_,rfl⟩
   obtain⟨d,hd⟩:∃d:Nat,d=(Utf8.decode s i).2:=⟨_,rfl⟩
   rw[←hr,←hd]at hnx
   obtain⟨wa,bI⟩:∃wa,wa=ZJ wr w2.heap.size s (i+d):=⟨_,rfl⟩
   have hia:wa.heap[w2.heap.size]?=some (.stringIter s (i+d)):=by rw[bI];exact Pz _ _ _ _ FD
   have HBA:Hid (Below w2.heap.size w2 wa):=by show Below _ _ _;rw[bI];exact yC HB.out _ _
   have hka:w2.heap.size<wa.heap.size:=(Array.getElem?_eq_some_iff.1 hia).1
   rw[←bI]at hnx
   have HIA:=hid hia
   have HKA:=hid hka
   clear bI hit FD hia hka
   by_cases hx128:x.toNat<128
   ·obtain rfl:d=1:=by rw[hd,decode_ascii s i hi (by rw[hx];exact hx128)]
    obtain rfl:r=x.toNat:=by rw[hr,decode_ascii s i hi (by rw[hx];exact hx128),hx]
    have Hx:=hid hxl
    have HBK:Hid (((x.toNat:Int)).toNat.toUInt8=x):=by show _=_;simp
    have Y4:=hid (Lib.contains_iff_indexByte [59,61] x)
    have hx0:(0:Int)≤(x.toNat:Int):=by omega
    clear hxl hx hr hd
    cases hin:([59,61]:List UInt8).contains x
    ·have hlt:¬((0:Int)≤Lib.indexByte T.data.toList x):=by rw[HT.out];exact of_decide_eq_false (Y4.out.symm.trans hin)
     have Y7:=hid hin
     clear hin
     go_wp2_with fail
     refine(MB.out _ _ hx0 (by omega)).mono ?_
     rintro e w3 ⟨rfl,hw3⟩
     subst hw3
     rw[HBK.out]
     go_wp2
     go_roundg g
     case measure=>omega
     case rel=>exact⟨i+1,by omega,by omega,HIA.out,HBA,HN.out.succ Hx.out Y7.out⟩
    ·have hlt:(0:Int)≤Lib.indexByte T.data.toList x:=by rw[HT.out];exact of_decide_eq_true (Y4.out.symm.trans hin)
     have Y7:=hid hin
     clear hin
     go_wp2_with fail
     refine(MB.out _ _ hx0 (by omega)).mono ?_
     rintro e w3 ⟨rfl,hw3⟩
     subst hw3
     rw[HBK.out]
     go_wp2
     go_ret
     exact⟨by rw[Lib.indexAny_hit HN.out Hx.out Y7.out];rfl,HBA.out⟩
   ·obtain ⟨aaw,hpos⟩:=decode_high s i hi (by rw[hx];omega)
    have HWD:=wide s i hi (by rw[hx];omega)
    rw[←hr]at aaw
    rw[←hd]at hpos HWD
    have HNX:Hid (Lib.NoAny s.data.toList [59,61] (i+d)):=fun j b hj hb=>by
     by_cases hji:j<i
     ·exact HN.out j b hji hb
     ·obtain⟨hjs,e⟩:=List.getElem?_eq_some_iff.1 hb
      have aax:j<s.size:=by rw[HL.out]at hjs;exact hjs
      have:=HWD.2 j aax (by omega) hj
      have hb':s[j]'aax=b:=e
      rw[hb']at this
      exact far_no b this
    have hid1:=HWD.1
    have ajw:Hid (128≤(r:Int)):=by show _≤_;omega
    clear hr hd HWD hx hxl aaw
    go_wp2_with fail
    refine(Zg.out _ _ ajw.out).mono ?_
    rintro e w3 ⟨rfl,hb3⟩
    have HI3:Hid (w3.heap[w2.heap.size]?=some (.stringIter s (i+d))):=(hb3.block _ HKA.out).trans HIA.out
    have HB3:Hid (Below w2.heap.size w2 w3):=bel HBA.out hb3
    clear hb3
    go_wp2
    go_roundg g
    case measure=>omega
    case rel=>exact⟨i+d,by omega,by omega,HI3.out,HB3,HNX⟩
  ·obtain rfl:i=s.size:=by omega
   have hnx:=fun ty=>DI (P:=Tryz.prog) wr w2.heap.size s s.size ty hit hi
   go_wp2
   go_ret
   exact⟨by rw[Lib.indexAny_none (by rw[HL.out];exact HN.out)];rfl,HB.out⟩
end Go.Proofs.YtgamccijegollaaGreatDoor.IdxM
namespace Go.Proofs.YtgamccijegollaaGreatDoor.OW
open Go.RowKit Base Dp qg
theorem ext_take (s:ByteArray) (k:Nat):(s.extract 0 k).data.toList=s.data.toList.take k:=by
 rw[ByteArray.data_extract]
 simp[Array.toList_extract,List.extract_eq_take_drop]
theorem ext_drop (s:ByteArray) (k:Nat):(s.extract k s.size).data.toList=s.data.toList.drop k:=by
 have hl:s.data.toList.length=s.size:=Array.length_toList
 rw[ByteArray.data_extract]
 simp only[Array.toList_extract,List.extract_eq_take_drop]
 rw[List.take_of_length_le (by rw[List.length_drop];omega)]
theorem lZ (s stops:ByteArray) (st:List UInt8) (w:World) (hs:s.size≤1073741824) (hI:Calls Tryz.prog 280 #[.string s,.string stops] w fun e w'=>e=.returned (.int .i64 (Lib.indexAny s.data.toList st))∧Below w.heap.size w w'):
  Calls Tryz.prog 258 #[.string s,.string stops] w fun e w'=>e=.returned (.tuple #[.string (strOf (tw st s.data.toList)),.string (strOf (dw st s.data.toList))])∧Below w.heap.size w w':=by
 have hl:s.data.toList.length=s.size:=Array.length_toList
 have hlen:=AY st s.data.toList
 obtain⟨n,hn⟩:∃n,n=(tw st s.data.toList).length:=⟨_,rfl⟩
 rw[ahK,←hn]at hI
 by_cases hd:dw st s.data.toList=[]
 ·rw[if_pos hd]at hI
  have ht:tw st s.data.toList=s.data.toList:=by
   have:=Wp st s.data.toList
   rwa[hd,List.append_nil]at this
  have HI:=hid hI
  have HE:Hid (strOf (tw st s.data.toList)=s∧strOf (dw st s.data.toList)=⟨#[]⟩):=by
   refine⟨?_,?_⟩
   ·rw[ht,aG]
   ·rw[hd];rfl
  clear hI ht hd hn hl hlen
  go_enter Tryz.func258,Tryz.ntmps258
  go_wp2_with fail
  refine(HI.out).mono ?_
  rintro e w2 ⟨rfl,hb2⟩
  have HB2:=hid hb2
  clear hb2
  go_wp2
  go_ret2
  exact⟨by rw[HE.out.1,HE.out.2];rfl,HB2.out⟩
 ·rw[if_neg hd]at hI
  have HI:=hid hI
  have hns:n≤s.size:=by omega
  have HE:Hid (strOf (tw st s.data.toList)=s.extract 0 n∧strOf (dw st s.data.toList)=s.extract n s.size):=by
   refine⟨?_,?_⟩
   ·rw[agz,←hn,←ext_take,aG]
   ·rw[afl,←hn,←ext_drop,aG]
  have h0:¬(n:Int)<0:=by omega
  have h1:(n:Int)≤(s.size:Int):=by omega
  clear hI hd hn hl hlen
  go_enter Tryz.func258,Tryz.ntmps258
  go_wp2_with fail
  refine(HI.out).mono ?_
  rintro e w2 ⟨rfl,hb2⟩
  have HB2:=hid hb2
  clear hb2
  go_wp2_with fail
  go_quiet (fail)
  go_wp2
  go_ret2
  exact⟨by rw[HE.out.1,HE.out.2];rfl,Base.below_drewN HB2.out _⟩
theorem split47 (s:ByteArray) (w:World) (hs:s.size≤1073741824):Calls Tryz.prog 258 #[.string s,.string ⟨#[47]⟩] w fun e w'=>e=.returned (.tuple #[.string (strOf (tw [47] s.data.toList)),.string (strOf (dw [47] s.data.toList))])∧Below w.heap.size w w':=
 lZ s ⟨#[47]⟩ [47] w hs ((Tryz.strings_IndexAny_one s ⟨#[47]⟩ w rfl (by intro j b h;match j,h with|0,h=>(simp at h;subst h;decide))).mono fun e w' ⟨h1,h2⟩=>⟨h1,h2▸Below.refl _ _⟩)
theorem Yx (s:ByteArray) (w:World) (hs:s.size≤1073741824):Calls Tryz.prog 258 #[.string s,.string ⟨#[59]⟩] w fun e w'=>e=.returned (.tuple #[.string (strOf (tw [59] s.data.toList)),.string (strOf (dw [59] s.data.toList))])∧Below w.heap.size w w':=
 lZ s ⟨#[59]⟩ [59] w hs ((Tryz.strings_IndexAny_one s ⟨#[59]⟩ w rfl (by intro j b h;match j,h with|0,h=>(simp at h;subst h;decide))).mono fun e w' ⟨h1,h2⟩=>⟨h1,h2▸Below.refl _ _⟩)
theorem split2 (s:ByteArray) (w:World) (hs:s.size≤1073741824):Calls Tryz.prog 258 #[.string s,.string ⟨#[59,61]⟩] w fun e w'=>e=.returned (.tuple #[.string (strOf (tw [59,61] s.data.toList)),.string (strOf (dw [59,61] s.data.toList))])∧Below w.heap.size w w':=by
 refine lZ s ⟨#[59,61]⟩ [59,61] w hs ?_
 by_cases h8:8<s.size
 ·exact Tryz.strings_IndexAny_long s ⟨#[59,61]⟩ w (Nat.le_refl _) h8 (by omega) (by decide) (by intro j b h;match j,h with|0,h=>(simp at h;subst h;decide)|1,h=>(simp at h;subst h;decide))
 exact IdxM.short_any s w (by omega)
end Go.Proofs.YtgamccijegollaaGreatDoor.OW
namespace Go.Proofs.YtgamccijegollaaGreatDoor.NG
open Go.RowKit Base Dp cO pU qg OW
theorem ang (L:List UInt8):(jT L).2≤L.length:=by
 cases L with
 |nil=>simp[jT]
 |cons c t=>
  have:=(Yh t).2
  by_cases h:c=34
  ·rw[jT,if_pos h]
   simpa using this
  rw[jT,if_neg h]
  simp
theorem AU {s:ByteArray} (h:s.data.toList=[]):s.toList=[]:=by rw[Lib.toList_data];exact h
theorem SK (s:List UInt8):(vl s).1.length≤s.length:=by
 unfold vl
 split
 ·cases s with
  |nil=>simp[jT]
  |cons c t=>
   have:=(Yh t).1
   show(jT (c::t)).1.length≤_
   by_cases h:c=34
   ·rw[jT,if_pos h];simp;omega
   rw[jT,if_neg h];simp
 have h1:=Sl (tw [59] s)
 have h2:=AY [59] s
 show(tr (tw [59] s)).length≤_
 omega
def VlV (s:List UInt8):Value:=.tuple #[.string (strOf (vl s).1),.bool (vl s).2.1,.string (strOf (vl s).2.2)]
theorem aiU (s:ByteArray) (w:World) (hs:s.size≤1073741824):Calls Tryz.prog 319 #[.string s] w fun e w'=>e=.returned (VlV s.data.toList)∧Below w.heap.size w w':=by
 have hl:s.data.toList.length=s.size:=Array.length_toList
 have hq:=WZ.aer s
 obtain⟨n,hn⟩:∃n,n=(jT s.data.toList).2:=⟨_,rfl⟩
 have hnl:=ang s.data.toList
 obtain⟨H,hH⟩:∃H,H=VlV s.data.toList:=⟨_,rfl⟩
 rw[←hH]
 obtain⟨V,hV⟩:∃V:ByteArray,V=strOf (jT s.data.toList).1:=⟨_,rfl⟩
 have HQ:Hid (∀w,Calls Tryz.prog 341 #[.string s] w fun e w'=>e=.returned (.tuple #[.string V,.int .i64 (n:Int)])∧Below w.heap.size w w'):=by
  show ∀w,_
  rw[hV,hn]
  exact fun w=>hq w hs
 clear hq
 by_cases h0:0<n
 ·obtain⟨X,hX⟩:∃X,X=s.extract n s.size:=⟨_,rfl⟩
  have NQ:X.data.toList=s.data.toList.drop n:=by rw[hX,ext_drop]
  have hXs:X.size≤1073741824:=by rw[hX,ByteArray.size_extract];omega
  have HS:=hid (fun w=>Yx X w hXs)
  obtain⟨T1,hT1⟩:∃T1,T1=strOf (tw [59] X.data.toList):=⟨_,rfl⟩
  obtain⟨T2,hT2⟩:∃T2,T2=strOf (dw [59] X.data.toList):=⟨_,rfl⟩
  rw[←hT1,←hT2]at HS
  have HE:Hid (H=.tuple #[.string V,.bool true,.string T2]):=by
   show _=_
   rw[hH,hV,hT2,NQ]
   unfold VlV vl
   rw[if_pos (by rw[←hn];exact h0),←hn]
  have h0i:(0:Int)<(n:Int):=by omega
  have h1i:(n:Int)≤(s.size:Int):=by omega
  have HX:=hid hX
  clear hX NQ hXs hT1 hT2 hH hV hn hnl hl h0
  go_enter Tryz.func319,Tryz.ntmps319
  go_wp2_with fail
  refine(HQ.out _).mono ?_
  rintro e w2 ⟨rfl,hb2⟩
  have HB2:=hid hb2
  clear hb2
  go_wp2_with fail
  rw[←HX.out]
  refine(HS.out _).mono ?_
  rintro e w3 ⟨rfl,hb3⟩
  have HB3:=hid (bel HB2.out hb3)
  clear hb3
  go_wp2
  go_ret3
  exact⟨by rw[HE.out];rfl,HB3.out⟩
 have HS:=hid (fun w=>Yx s w hs)
 obtain⟨T1,hT1⟩:∃T1,T1=strOf (tw [59] s.data.toList):=⟨_,rfl⟩
 obtain⟨T2,hT2⟩:∃T2,T2=strOf (dw [59] s.data.toList):=⟨_,rfl⟩
 rw[←hT1,←hT2]at HS
 have hT1d:T1.data.toList=tw [59] s.data.toList:=by rw[hT1];rfl
 have hT1s:T1.size≤1073741824:=by rw[hT1,o9];have:=AY [59] s.data.toList;omega
 obtain⟨R,hR⟩:∃R:ByteArray,R=strOf (tr T1.data.toList):=⟨_,rfl⟩
 have HR:Hid (∀w,Calls Tryz.prog 260 #[.string T1] w fun e w'=>e=.returned (.string R)∧Below w.heap.size w w'):=by
  show ∀w,_
  rw[hR]
  exact fun w=>Zz.zi T1 w hT1s
 have BR:R.data.toList=tr (tw [59] s.data.toList):=by rw[hR,←hT1d];rfl
 have hE:H=.tuple #[.string R,.bool (decide (R.data.toList≠[])),.string T2]:=by
  rw[hH,hT2]
  unfold VlV vl
  rw[if_neg (by rw[←hn];exact h0),←BR]
  show Value.tuple #[.string (strOf R.data.toList),_,_]=_
  rw[aG]
 have h0i:¬(0:Int)<(n:Int):=by omega
 clear hT1d hT1s hR BR hT1 hT2 hH hV hn hnl hl h0
 by_cases he:R.data.toList=[]
 ·have hq1:=AU he
  have hq2:(R.toList==[])=true:=by rw[hq1];rfl
  have HE:Hid (H=.tuple #[.string R,.bool false,.string T2]):=by show _=_;rw[hE,decide_eq_false (by simp[he])]
  clear hq1 he hE
  go_enter Tryz.func319,Tryz.ntmps319
  go_wp2_with fail
  refine(HQ.out _).mono ?_
  rintro e w2 ⟨rfl,hb2⟩
  have HB2:=hid hb2
  clear hb2
  go_wp2_with fail
  refine(HS.out _).mono ?_
  rintro e w3 ⟨rfl,hb3⟩
  have HB3:=hid (bel HB2.out hb3)
  clear hb3
  go_wp2_with fail
  refine(HR.out _).mono ?_
  rintro e w4 ⟨rfl,hb4⟩
  have HB4:=hid (bel HB3.out hb4)
  clear hb4
  go_wp2
  go_ret3
  exact⟨by rw[HE.out];rfl,HB4.out⟩
 have hq1:(R.toList==[])=false:=by rw[Lib.toList_data,beq_eq_false_iff_ne];exact he
 have hq2:R.toList.isEmpty=false:=by rw[Lib.toList_data];simpa using he
 have hq3:¬R.toList=[]:=by rw[Lib.toList_data];exact he
 have HE:Hid (H=.tuple #[.string R,.bool true,.string T2]):=by show _=_;rw[hE,decide_eq_true he]
 clear he hE
 go_enter Tryz.func319,Tryz.ntmps319
 go_wp2_with fail
 refine(HQ.out _).mono ?_
 rintro e w2 ⟨rfl,hb2⟩
 have HB2:=hid hb2
 clear hb2
 go_wp2_with fail
 refine(HS.out _).mono ?_
 rintro e w3 ⟨rfl,hb3⟩
 have HB3:=hid (bel HB2.out hb3)
 clear hb3
 go_wp2_with fail
 refine(HR.out _).mono ?_
 rintro e w4 ⟨rfl,hb4⟩
 have HB4:=hid (bel HB3.out hb4)
 clear hb4
 go_wp2
 go_ret3
 exact⟨by rw[HE.out];rfl,HB4.out⟩
def B2 (T:TypeId) (w:World) (g:Nat) (a b:Value):Prop:=w.heap[g]?=some (.cells #[a,b] T (0,0))
theorem B2.lt {T:TypeId} {w:World} {g:Nat} {a b:Value} (h:B2 T w g a b):g<w.heap.size:=(Array.getElem?_eq_some_iff.1 h).1
theorem B2.facts {T:TypeId} {w:World} {g:Nat} {a b:Value} (h:B2 T w g a b):w.cell? ⟨g,0,none⟩=some a∧w.cell? ⟨g,1,none⟩=some b:=
 ⟨cell_of_row w g 0 _ _ _ h,cell_of_row w g 1 _ _ _ h⟩
theorem B2.thaw {T:TypeId} {w:World} {g:Nat} {a b:Value} (h:B2 T w g a b):w.frozen? ⟨g,0,none⟩=false∧w.frozen? ⟨g,1,none⟩=false:=
 ⟨frozen_of_row w g 0 _ _ h,frozen_of_row w g 1 _ _ h⟩
theorem B2.below {T:TypeId} {w w':World} {g:Nat} {a b:Value} (h:B2 T w g a b) (hb:Below w.heap.size w w'):B2 T w' g a b:=(hb.block g h.lt).trans h
def aei (w:World) (g:Nat) (a b:Value):World:=(w.setCell ⟨g,0,none⟩ a).setCell ⟨g,1,none⟩ b
theorem B2.put {T:TypeId} {w:World} {g:Nat} {a b:Value} (h:B2 T w g a b) (x y:Value):B2 T (aei w g x y) g x y:=
 heap_setCell_same _ g 1 _ _ y (heap_setCell_same w g 0 _ _ x h)
theorem uV {w0 w:World} {B g:Nat} (h:Below B w0 w) (hg:B≤g) (x y:Value):Below B w0 (aei w g x y):=(h.setCell hg _).setCell hg _
theorem B2.load {w:World} {g:Nat} {a b:Value} (h:B2 130 w g a b):(loadVar 130 ⟨g,0,none⟩).run Tryz.prog w=.ok (.agg #[a,b]) w:=
 run_loadVar_row w g _ _ #[a,b] (0,0) _ h Tryz.underlying130 rfl (by
  rw[show(Tryz.prog.info? 130).map (·.size)=some 2 by kernel_rfl]
  rfl)
theorem Rq {w:World} {g:Nat} {a b:Value} (h:B2 130 w g a b) (ok:Bool) (s:ByteArray) (tmps:Array Value) (h2:tmps.getD 2 undef=.pointer (some ⟨g,0,none⟩)) (h3:tmps.getD 3 undef=.bool ok) (h4:tmps.getD 4 undef=.string s):
  (results Tryz.f295 tmps).run Tryz.prog w=.ok (.tuple #[.agg #[a,b],.bool ok,.string s]) w:=by
 have hp':tmps[2]?.getD undef=.pointer (some ⟨g,0,none⟩):=by simpa using h2
 have hq':tmps[3]?.getD undef=.bool ok:=by simpa using h3
 have hr':tmps[4]?.getD undef=.string s:=by simpa using h4
 simp[results,Tryz.results295,hp',hq',hr',asAddr,h.load]
def PmR (s:List UInt8) (e:Ending):Prop:=∃a b:ByteArray,e=.returned (.tuple #[.agg #[.string a,.string b],.bool (pm s).1.isSome,.string (strOf (pm s).2)])∧∀p,(pm s).1=some p→a=strOf p.1∧b=strOf p.2
theorem Uh (s:ByteArray) (w:World) (hs:s.size≤1073741824):Calls Tryz.prog 295 #[.string s] w fun e w'=>PmR s.data.toList e∧Below w.heap.size w w':=by
 have hl:s.data.toList.length=s.size:=Array.length_toList
 obtain⟨U,hU⟩:∃U:ByteArray,U=strOf (tl s.data.toList):=⟨_,rfl⟩
 have hUd:U.data.toList=tl s.data.toList:=by rw[hU];rfl
 have hUs:U.size≤1073741824:=by rw[hU,o9];have:=Hl s.data.toList;omega
 have HT:Hid (∀w,Calls Tryz.prog 119 #[.string s,.string ⟨#[9,10,13,32]⟩] w fun e w'=>e=.returned (.string U)∧Below w.heap.size w w'):=by
  show ∀w,_
  rw[hU]
  exact fun w=>Tryz.strings_TrimLeft_set s ⟨#[9,10,13,32]⟩ w (by decide) (ascii_of_all (by decide))
 have HS:=hid (fun w=>split2 U w hUs)
 obtain⟨N,hN⟩:∃N,N=strOf (tw [59,61] U.data.toList):=⟨_,rfl⟩
 obtain⟨R,hR⟩:∃R,R=strOf (dw [59,61] U.data.toList):=⟨_,rfl⟩
 rw[←hN,←hR]at HS
 have hNd:N.data.toList=tw [59,61] (tl s.data.toList):=by rw[hN,←hUd];rfl
 have BR:R.data.toList=dw [59,61] (tl s.data.toList):=by rw[hR,←hUd];rfl
 have hNs:N.size≤1073741824:=by
  rw[hN,o9,hUd]
  have:=AY [59,61] (tl s.data.toList)
  have:=Hl s.data.toList
  omega
 have hRs:R.size≤1073741824:=by
  rw[hR,o9,hUd]
  have:=zX [59,61] (tl s.data.toList)
  have:=Hl s.data.toList
  omega
 have hrl:R.data.toList.length=R.size:=Array.length_toList
 cases hr:R.data.toList with
 |nil=>
  have hpm:pm s.data.toList=(none,[]):=by unfold pm;rw[←BR,hr]
  have hq1:=AU hr
  have hq2:(R.toList==[])=true:=by rw[hq1];rfl
  have hRe:R=strOf []:=by rw[←aG R,hr]
  have HF:Hid (∀e,e=.returned (.tuple #[.agg #[.string ⟨#[]⟩,.string ⟨#[]⟩],.bool false,.string R])→PmR s.data.toList e):=by
   show ∀e,_
   intro e he
   refine⟨⟨#[]⟩,⟨#[]⟩,?_,?_⟩
   ·rw[hpm,he,hRe];rfl
   rw[hpm];intro p hp;cases hp
  clear hN hR hNd BR hNs hRs hrl hr hpm hq1 hRe hU hUd hUs hl
  go_enter Tryz.func295,Tryz.ntmps295
  go_upto_region 1 with(fail)
  generalize hw1:w.alloc _=w1
  have HB1:Hid (Below w.heap.size w w1):=by show Below _ _ _;rw[←hw1];exact(Below.refl _ _).alloc (Nat.le_refl _) _
  have kP:Hid (B2 130 w1 w.heap.size (.string ⟨#[]⟩) (.string ⟨#[]⟩)):=by show B2 _ _ _ _ _;rw[←hw1];exact heap_alloc_new _ _
  clear hw1
  go_wp2_with fail
  refine(HT.out _).mono ?_
  rintro e w2 ⟨rfl,hb2⟩
  have gY:=hid (kP.out.below hb2)
  have HB2:=hid (bel HB1.out hb2)
  clear hb2
  go_wp2_with fail
  refine(HS.out _).mono ?_
  rintro e w3 ⟨rfl,hb3⟩
  have jI:=hid (gY.out.below hb3)
  have HB3:=hid (bel HB2.out hb3)
  clear hb3
  obtain⟨f0,f1⟩:=jI.out.thaw
  obtain⟨k0,k1⟩:=jI.out.facts
  go_wp2
  refine bodyPost_ret (w:=aei _ w.heap.size _ _) (Rq (jI.out.put _ _) false R _ rfl rfl rfl) rfl ⟨HF.out _ rfl,uV HB3.out (Nat.le_refl _) _ _⟩
 | cons c r=>
  have hq1:(R.toList==[])=false:=by rw[Lib.toList_data,hr];rfl
  have hq2:R.toList.isEmpty=false:=by rw[Lib.toList_data,hr];rfl
  have hq3:¬R.toList=[]:=by rw[Lib.toList_data,hr];simp
  have hR1:1≤R.size:=by rw[←hrl,hr];simp
  have h0i:(0:Int)<(R.size:Int):=by omega
  have h1i:(1:Int)≤(R.size:Int):=by omega
  have hR0:R[0]=c:=by
   have:R.data.toList[0]'(by omega)=R[0]:=rfl
   rw[←this]
   simp only[hr,List.getElem_cons_zero]
  by_cases hc:c=59
  ·have hpm:pm s.data.toList=(none,R.data.toList):=by unfold pm;rw[←BR,hr];simp only[];rw[if_pos hc]
   have hcc:((c.toNat:Int)==59)=true:=by rw[hc];rfl
   have HF:Hid (∀e,e=.returned (.tuple #[.agg #[.string ⟨#[]⟩,.string ⟨#[]⟩],.bool false,.string R])→PmR s.data.toList e):=by
    show ∀e,_
    intro e he
    refine⟨⟨#[]⟩,⟨#[]⟩,?_,?_⟩
    ·rw[hpm,he]
     show _=Ending.returned (.tuple #[_,_,.string (strOf R.data.toList)])
     rw[aG]
     rfl
    rw[hpm];intro p hp;cases hp
   clear hN hR hNd BR hNs hRs hrl hr hpm hU hUd hUs hl hc
   go_enter Tryz.func295,Tryz.ntmps295
   go_upto_region 1 with(fail)
   generalize hw1:w.alloc _=w1
   have HB1:Hid (Below w.heap.size w w1):=by show Below _ _ _;rw[←hw1];exact(Below.refl _ _).alloc (Nat.le_refl _) _
   have kP:Hid (B2 130 w1 w.heap.size (.string ⟨#[]⟩) (.string ⟨#[]⟩)):=by show B2 _ _ _ _ _;rw[←hw1];exact heap_alloc_new _ _
   clear hw1
   go_wp2_with fail
   refine(HT.out _).mono ?_
   rintro e w2 ⟨rfl,hb2⟩
   have gY:=hid (kP.out.below hb2)
   have HB2:=hid (bel HB1.out hb2)
   clear hb2
   go_wp2_with fail
   refine(HS.out _).mono ?_
   rintro e w3 ⟨rfl,hb3⟩
   have jI:=hid (gY.out.below hb3)
   have HB3:=hid (bel HB2.out hb3)
   clear hb3
   obtain⟨f0,f1⟩:=jI.out.thaw
   obtain⟨k0,k1⟩:=jI.out.facts
   go_wp2
   refine bodyPost_ret (w:=aei _ w.heap.size _ _) (Rq (jI.out.put _ _) false R _ rfl rfl rfl) rfl ⟨HF.out _ rfl,uV HB3.out (Nat.le_refl _) _ _⟩
  have hcc:((c.toNat:Int)==59)=false:=by
   rw[beq_eq_false_iff_ne]
   intro e
   exact hc (UInt8.toNat_inj.1 (by show _=59;omega))
  obtain⟨Y,hY⟩:∃Y,Y=R.extract 1 R.size:=⟨_,rfl⟩
  have hYd:Y.data.toList=r:=by rw[hY,ext_drop,hr];rfl
  have hYs:Y.size≤1073741824:=by rw[hY,ByteArray.size_extract];omega
  obtain⟨V,hV⟩:∃V:ByteArray,V=strOf (vl r).1:=⟨_,rfl⟩
  obtain⟨Z,hZ⟩:∃Z:ByteArray,Z=strOf (vl r).2.2:=⟨_,rfl⟩
  have hVd:V.data.toList=(vl r).1:=by rw[hV];rfl
  have hVs:V.size≤1073741824:=by
   rw[hV,o9]
   have:=SK r
   have:r.length+1=R.size:=by rw[←hrl,hr];rfl
   omega
  have hvl:=fun w=>aiU Y w hYs
  rw[hYd,show VlV r=.tuple #[.string V,.bool (vl r).2.1,.string Z]by rw[hV,hZ];rfl]at hvl
  obtain⟨L,hL⟩:∃L:ByteArray,L=strOf (lower N.data.toList):=⟨_,rfl⟩
  have Tf:Hid (∀w,Calls Tryz.prog 113 #[.string N] w fun e w'=>e=.returned (.string L)∧Below w.heap.size w w'):=by
   show ∀w,_
   rw[hL]
   exact fun w=>cO.gI N w (by unfold maxLen;omega)
  have hpm:pm s.data.toList=(if ((vl r).2.1&&dP N.data.toList&&CV.quotable V.data.toList)=true then some (lower N.data.toList,(vl r).1)else none,(vl r).2.2):=by
   unfold pm
   rw[←BR,hr]
   simp only[]
   rw[if_neg hc,←hNd,hVd]
   rfl
  have HF0:Hid (∀(b:Bool) e,b=((vl r).2.1&&dP N.data.toList&&CV.quotable V.data.toList)→e=.returned (.tuple #[.agg #[.string L,.string V],.bool b,.string Z])→PmR s.data.toList e):=by
   show ∀b e,_
   intro b e hb he
   refine⟨L,V,?_,?_⟩
   ·rw[hpm,he,hZ,hb]
    cases((vl r).2.1&&dP N.data.toList&&CV.quotable V.data.toList)<;>rfl
   rw[hpm]
   intro p hp
   split at hp
   ·injection hp with hp
    rw[←hp,hL,hV]
    exact⟨rfl,rfl⟩
   cases hp
  have HIS0:=fun w=>Gn.QC N w hNs
  have HQU0:=fun w=>CV.Jo V w hVs
  have HY:=hid hY
  clear hN hR hNd BR hNs hRs hrl hr hpm hU hUd hUs hl hc hY hYd hYs hVd hVs hV hZ hL
  generalize (vl r).2.1=bg at hvl HF0
  generalize dP N.data.toList=bi at HIS0 HF0
  generalize CV.quotable V.data.toList=bq at HQU0 HF0
  have OT:=hid hvl
  have HIS:=hid HIS0
  have HQU:=hid HQU0
  clear hvl HIS0 HQU0
  cases bg with
  |false=>
   have HF:Hid (∀e,e=.returned (.tuple #[.agg #[.string L,.string V],.bool false,.string Z])→PmR s.data.toList e):=fun e=>HF0.out false e (by simp)
   go_enter Tryz.func295,Tryz.ntmps295
   go_upto_region 1 with(fail)
   generalize hw1:w.alloc _=w1
   have HB1:Hid (Below w.heap.size w w1):=by show Below _ _ _;rw[←hw1];exact(Below.refl _ _).alloc (Nat.le_refl _) _
   have kP:Hid (B2 130 w1 w.heap.size (.string ⟨#[]⟩) (.string ⟨#[]⟩)):=by show B2 _ _ _ _ _;rw[←hw1];exact heap_alloc_new _ _
   clear hw1
   go_wp2_with fail
   refine(HT.out _).mono ?_
   rintro e w2 ⟨rfl,hb2⟩
   have gY:=hid (kP.out.below hb2)
   have HB2:=hid (bel HB1.out hb2)
   clear hb2
   go_wp2_with fail
   refine(HS.out _).mono ?_
   rintro e w3 ⟨rfl,hb3⟩
   have jI:=hid (gY.out.below hb3)
   have HB3:=hid (bel HB2.out hb3)
   clear hb3
   go_wp2_with fail
   rw[←HY.out]
   refine(OT.out _).mono ?_
   rintro e w4 ⟨rfl,hb4⟩
   have JQ:=hid (jI.out.below hb4)
   have HB4:=hid (bel HB3.out hb4)
   clear hb4
   go_wp2_with fail
   refine(Tf.out _).mono ?_
   rintro e w7 ⟨rfl,hb7⟩
   have Gg:=hid (JQ.out.below hb7)
   have kZ:=hid (bel HB4.out hb7)
   clear hb7
   obtain⟨f0,f1⟩:=Gg.out.thaw
   obtain⟨k0,k1⟩:=Gg.out.facts
   go_wp2
   refine bodyPost_ret (w:=aei _ w.heap.size _ _) (Rq (Gg.out.put _ _) false Z _ rfl rfl rfl) rfl ⟨HF.out _ rfl,uV kZ.out (Nat.le_refl _) _ _⟩
  |true=>
   cases bi with
   |false=>
    have HF:Hid (∀e,e=.returned (.tuple #[.agg #[.string L,.string V],.bool false,.string Z])→PmR s.data.toList e):=fun e=>HF0.out false e (by simp)
    go_enter Tryz.func295,Tryz.ntmps295
    go_upto_region 1 with(fail)
    generalize hw1:w.alloc _=w1
    have HB1:Hid (Below w.heap.size w w1):=by show Below _ _ _;rw[←hw1];exact(Below.refl _ _).alloc (Nat.le_refl _) _
    have kP:Hid (B2 130 w1 w.heap.size (.string ⟨#[]⟩) (.string ⟨#[]⟩)):=by show B2 _ _ _ _ _;rw[←hw1];exact heap_alloc_new _ _
    clear hw1
    go_wp2_with fail
    refine(HT.out _).mono ?_
    rintro e w2 ⟨rfl,hb2⟩
    have gY:=hid (kP.out.below hb2)
    have HB2:=hid (bel HB1.out hb2)
    clear hb2
    go_wp2_with fail
    refine(HS.out _).mono ?_
    rintro e w3 ⟨rfl,hb3⟩
    have jI:=hid (gY.out.below hb3)
    have HB3:=hid (bel HB2.out hb3)
    clear hb3
    go_wp2_with fail
    rw[←HY.out]
    refine(OT.out _).mono ?_
    rintro e w4 ⟨rfl,hb4⟩
    have JQ:=hid (jI.out.below hb4)
    have HB4:=hid (bel HB3.out hb4)
    clear hb4
    go_wp2_with fail
    refine(HIS.out _).mono ?_
    rintro e w5 ⟨rfl,hw5⟩
    subst hw5
    go_wp2_with fail
    refine(Tf.out _).mono ?_
    rintro e w7 ⟨rfl,hb7⟩
    have Gg:=hid (JQ.out.below hb7)
    have kZ:=hid (bel HB4.out hb7)
    clear hb7
    obtain⟨f0,f1⟩:=Gg.out.thaw
    obtain⟨k0,k1⟩:=Gg.out.facts
    go_wp2
    refine bodyPost_ret (w:=aei _ w.heap.size _ _) (Rq (Gg.out.put _ _) false Z _ rfl rfl rfl) rfl ⟨HF.out _ rfl,uV kZ.out (Nat.le_refl _) _ _⟩
   |true=>
    have HF:Hid (∀e,e=.returned (.tuple #[.agg #[.string L,.string V],.bool bq,.string Z])→PmR s.data.toList e):=fun e=>HF0.out bq e (by simp)
    go_enter Tryz.func295,Tryz.ntmps295
    go_upto_region 1 with(fail)
    generalize hw1:w.alloc _=w1
    have HB1:Hid (Below w.heap.size w w1):=by show Below _ _ _;rw[←hw1];exact(Below.refl _ _).alloc (Nat.le_refl _) _
    have kP:Hid (B2 130 w1 w.heap.size (.string ⟨#[]⟩) (.string ⟨#[]⟩)):=by show B2 _ _ _ _ _;rw[←hw1];exact heap_alloc_new _ _
    clear hw1
    go_wp2_with fail
    refine(HT.out _).mono ?_
    rintro e w2 ⟨rfl,hb2⟩
    have gY:=hid (kP.out.below hb2)
    have HB2:=hid (bel HB1.out hb2)
    clear hb2
    go_wp2_with fail
    refine(HS.out _).mono ?_
    rintro e w3 ⟨rfl,hb3⟩
    have jI:=hid (gY.out.below hb3)
    have HB3:=hid (bel HB2.out hb3)
    clear hb3
    go_wp2_with fail
    rw[←HY.out]
    refine(OT.out _).mono ?_
    rintro e w4 ⟨rfl,hb4⟩
    have JQ:=hid (jI.out.below hb4)
    have HB4:=hid (bel HB3.out hb4)
    clear hb4
    go_wp2_with fail
    refine(HIS.out _).mono ?_
    rintro e w5 ⟨rfl,hw5⟩
    subst hw5
    go_wp2_with fail
    refine(HQU.out _).mono ?_
    rintro e w6 ⟨rfl,hb6⟩
    have HX6:=hid (JQ.out.below hb6)
    have nN:=hid (bel HB4.out hb6)
    clear hb6
    go_wp2_with fail
    refine(Tf.out _).mono ?_
    rintro e w7 ⟨rfl,hb7⟩
    have Gg:=hid (HX6.out.below hb7)
    have kZ:=hid (bel nN.out hb7)
    clear hb7
    obtain⟨f0,f1⟩:=Gg.out.thaw
    obtain⟨k0,k1⟩:=Gg.out.facts
    go_wp2
    refine bodyPost_ret (w:=aei _ w.heap.size _ _) (Rq (Gg.out.put _ _) bq Z _ rfl rfl rfl) rfl ⟨HF.out _ rfl,uV kZ.out (Nat.le_refl _) _ _⟩
end Go.Proofs.YtgamccijegollaaGreatDoor.NG
