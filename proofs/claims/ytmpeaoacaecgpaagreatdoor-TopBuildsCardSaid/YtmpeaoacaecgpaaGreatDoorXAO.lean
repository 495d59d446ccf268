/- Texts that belong together: WS, yw, tN, Fp, tK, sU. -/
import Derived.Test.YtmpeaoacaecgpaaGreatDoorXAN
import Derived.Test.YtmpeaoacaecgpaaGreatDoorXAK
import Derived.Test.YtmpeaoacaecgpaaGreatDoorXAC
import Derived.Test.YtmpeaoacaecgpaaGreatDoorXAE
import Derived.Lib.LastIndexByte
import Derived.OwnWalk
import Derived.Test.YtmpeaoacaecgpaaGreatDoorXAM
import Derived.Test.YtmpeaoacaecgpaaGreatDoorXAJ
import Derived.Test.YtmpeaoacaecgpaaGreatDoorXAG
import Derived.Test.YtmpeaoacaecgpaaGreatDoorXAI
set_option linter.unusedSimpArgs false
set_option linter.unusedVariables false
set_option maxRecDepth 100000
set_option maxHeartbeats 64000000
namespace Go.Proofs.YtmpeaoacaecgpaaGreatDoor.WS
open Go.RowKit Base Base2 Base3 PthP PthE PthG PthH PthJ
def cs (sp:Bool):ByteArray:=strOf (chs sp)
theorem ac0 (sp:Bool) (s:ByteArray) (w:World) (hs:s.size≤1073741824):
  Calls Tryz.prog 271 #[.string s,.string (cs sp)] w fun e w'=>e=.returned (.int .i64 (if upto sp s.data.toList<s.size then(upto sp s.data.toList:Int)else -1))∧Below w.heap.size w w':=by
 have hsz:s.data.toList.length=s.size:=Array.length_toList
 have hi:=Vq sp s.data.toList
 rw[hsz]at hi
 rw[←hi]
 cases sp with
 |false=>exact(Tryz.strings_IndexAny_one s (cs false) w rfl (by intro j b h;match j,h with|0,h=>simp[cs,chs,strOf]at h;subst h;decide)).mono fun e w' ⟨h1,h2⟩=>⟨h1,h2▸Below.refl _ _⟩
 |true=>
  by_cases h8:8<s.size
  ·exact Tryz.strings_IndexAny_long s (cs true) w (Nat.le_refl _) h8 (by omega) (by decide) (by intro j b h;match j,h with|0,h=>(simp[cs,chs,strOf]at h;subst h;decide)|1,h=>(simp[cs,chs,strOf]at h;subst h;decide))
  ·exact PthK.short_any s w (by omega)
theorem walk_any (file sp:Bool) (A:Option Addr) (n cap:Nat) (l:List ByteArray) (s:ByteArray) (w:World) (hR:aY w A n (l.map Value.string)) (hnc:n≤cap) (hcm:cap≤maxLen) (hm:n+s.size≤900000):
  Calls Tryz.prog 286 #[.bool file,.bool sp,.slice A n cap,.string s] w (lu w.heap.size w (wb file sp l [] s.data.toList)):=by
 have hln:l.length=n:=by rw[←hR.1,List.length_map]
 have hsl:s.data.toList.length=s.size:=Array.length_toList
 obtain⟨S,hS⟩:∃S,S=wb file sp l [] s.data.toList:=⟨_,rfl⟩
 rw[←hS]
 have HS:=hid hS
 have HR:=hid hR
 have HL:=hid hln
 have HSL:=hid hsl
 have hn6:n≤1000000:=by omega
 clear hS hR hln hsl
 cases sp
 focus
  have YN:Hid (∀(s:ByteArray) (w:World),s.size≤1073741824→Calls Tryz.prog 271 #[.string s,.string ⟨#[47]⟩] w fun e w'=>e=.returned (.int .i64 (if upto false s.data.toList<s.size then(upto false s.data.toList:Int)else -1))∧Below w.heap.size w w'):=fun s w h=>ac0 false s w h
  obtain⟨p,hp⟩:∃p,p=false:=⟨_,rfl⟩
 rotate_left
 focus
  have YN:Hid (∀(s:ByteArray) (w:World),s.size≤1073741824→Calls Tryz.prog 271 #[.string s,.string ⟨#[47,92]⟩] w fun e w'=>e=.returned (.int .i64 (if upto true s.data.toList<s.size then(upto true s.data.toList:Int)else -1))∧Below w.heap.size w w'):=fun s w h=>ac0 true s w h
  obtain⟨p,hp⟩:∃p,p=true:=⟨_,rfl⟩
 rotate_left
 all_goals
  rw[←hp]at YN HS
  clear hp
  go_enter Tryz.func286,Tryz.ntmps286
  go_wp2_with fail
  refine(zS A n cap l _ HR.out hn6).mono ?_
  rintro e w2 ⟨v,rfl,hown2,hb2⟩
  have jy:=hid hown2
  clear hown2
  go_wp2
  go_loopw [3,10,11] (fun vs vo _ wr=>∃(M:List UInt8) (l':List ByteArray),vs=.string (strOf M)∧l'.length+M.length≤n+s.size∧Hid (wr.ownsRow w.heap.size 9 1 vo l'.length (l'.map Value.string))∧Hid (Below w.heap.size w wr)∧Hid (S=wb file p l' [] M)) (fun vs _ _ _=>match vs with| .string x=>x.size|_=>0)
  case atStart=>exact⟨s.data.toList,l,by rw[aG],by rw[HL.out,HSL.out];exact Nat.le_refl _,jy,hb2,HS⟩
  case round=>
   clear jy
   obtain⟨M,l',rfl,hlen,HO,HB,HW⟩:=hrel
   obtain⟨U,hU⟩:∃U,U=upto p M:=⟨_,rfl⟩
   obtain⟨Z,hZ⟩:∃Z,Z=strOf M:=⟨_,rfl⟩
   have hzs:Z.size=M.length:=by rw[hZ,size_strOf]
   have hzl:Z.data.toList=M:=by rw[hZ];rfl
   have hul:U≤M.length:=by rw[hU];exact YH p M
   rw[←hZ]
   have HU:=hid hU
   have Am:=hid hzl
   have HZ:=hid hZ
   clear hU hZ hzl
   obtain⟨m,hm⟩:∃m,m=M.length:=⟨_,rfl⟩
   obtain⟨k,hk⟩:∃k,k=l'.length:=⟨_,rfl⟩
   rw[←hm]at hul hlen hzs
   rw[←hk]at hlen
   have HM:=hid hm
   have HK:=hid hk
   clear hm hk
   by_cases hlt:U<m
   ·have HRV:Hid ((if upto p Z.data.toList<Z.size then(upto p Z.data.toList:Int)else -1)=(U:Int)):=by
     show _=_
     rw[Am.out,←HU.out,if_pos (by omega)]
    have HT1:Hid (Z.extract 0 U=strOf (M.take U)):=by show _=_;rw[Regs.ext_take,Am.out]
    have HT2:Hid (Z.extract (U+1) m=strOf (M.drop (U+1))):=by show _=_;rw[Regs.ext_drop _ _ _ hzs.symm,Am.out]
    obtain⟨X,hX⟩:∃X,X=Z.extract 0 U:=⟨_,rfl⟩
    obtain⟨Y,hY⟩:∃Y,Y=Z.extract (U+1) m:=⟨_,rfl⟩
    rw[←hX]at HT1
    rw[←hY]at HT2
    have hxe:Z.extract 0 U=X:=hX.symm
    have hye:Z.extract (U+1) m=Y:=hY.symm
    clear hX hY
    have hxs:X.size≤1073741824:=by rw[HT1.out,size_strOf,List.length_take];omega
    have hys:Y.size<m:=by rw[HT2.out,size_strOf,List.length_drop,←HM.out];omega
    have hxd:Hid (X.data.toList=M.take U):=by show _=_;rw[HT1.out];rfl
    have HYS:=hid hys
    have hkm:k≤1000000:=by omega
    have hls:=vI file false l' X.data.toList
    rw[←HK.out]at hls
    have HLS:=hid hls
    clear hls hys
    go_wp2_with fail
    refine(YN.out Z _ (by omega)).mono ?_
    rintro e w3 ⟨rfl,hb3⟩
    rw[HRV.out]
    go_wp2_with fail
    refine(abK file false w.heap.size _ l' X _ (aP HO.out hb3) (Nat.le_trans HB.out.size hb3.size) (by rw[←HK.out];exact hkm) hxs).mono ?_
    rintro e w4 ⟨v4,rfl,hown4,hb4⟩
    have Ti:=hid hown4
    have HB4:Hid (Below w.heap.size w w4):=(bel HB.out hb3).trans (hb4.mono (Nat.le_refl _))
    clear hown4 hb4 hb3
    go_wp2
    go_roundw
    case rel=>exact⟨M.drop (U+1),Hu file false l' X.data.toList,by rw[HT2.out],by rw[List.length_drop,←HM.out];have:=HLS.out;omega,Ti,HB4,by show _=_;rw[HW.out,agD file p M l' [] (by rw[←HU.out,←HM.out];exact hlt),←HU.out,hxd.out];rfl⟩
    case measure=>show Y.size<Z.size;rw[hzs];exact HYS.out
   ·have HRV:Hid ((if upto p Z.data.toList<Z.size then(upto p Z.data.toList:Int)else -1)= -1):=by
     show _=_
     rw[Am.out,←HU.out,if_neg (by omega)]
    have hkm:k≤1000000:=by omega
    have HE:Hid (S=Hu file true l' Z.data.toList):=by
     show _=_
     rw[HW.out,agC file p M l' [] (by rw[←HU.out,←HM.out];exact hlt),Am.out]
     rfl
    go_wp2_with fail
    refine(YN.out Z _ (by omega)).mono ?_
    rintro e w3 ⟨rfl,hb3⟩
    rw[HRV.out]
    go_wp2_with fail
    refine(abK file true w.heap.size _ l' Z _ (aP HO.out hb3) (Nat.le_trans HB.out.size hb3.size) (by rw[←HK.out];exact hkm) (by omega)).mono ?_
    rintro e w4 ⟨v4,rfl,hown4,hb4⟩
    have HX:Hid (lu w.heap.size w S (.returned v4) w4):=⟨v4,rfl,by rw[HE.out];exact hown4,(bel HB.out hb3).trans (hb4.mono (Nat.le_refl _))⟩
    clear hown4 hb4 hb3
    go_wp2
    go_ret
    exact HX.out
end Go.Proofs.YtmpeaoacaecgpaaGreatDoor.WS
namespace Go.Proofs.YtmpeaoacaecgpaaGreatDoor.yw
open Go.RowKit Base Regs Base2 cO PthP PthG PthJ WS UrlA PrsP
theorem dl (s:ByteArray):s.data.toList.length=s.size:=Array.length_toList
theorem ext_left (s:ByteArray) (k:Nat):(s.extract 0 k).data.toList=s.data.toList.take k:=by
 rw[ByteArray.data_extract]
 simp[Array.toList_extract,List.extract_eq_take_drop]
theorem ext_right (s:ByteArray) (k:Nat):(s.extract k s.size).data.toList=s.data.toList.drop k:=by
 rw[ByteArray.data_extract]
 simp only[Array.toList_extract,List.extract_eq_take_drop]
 rw[List.take_of_length_le]
 rw[List.length_drop,dl]
 omega
theorem RU (s:ByteArray) (k:Nat):s.extract 0 k=strOf (s.data.toList.take k):=by rw[←ext_left,aG]
theorem l7 (s:ByteArray) (k:Nat):s.extract k s.size=strOf (s.data.toList.drop k):=by rw[←ext_right,aG]
theorem ix (sp:Bool) (c:UInt8):decide (0≤Lib.indexByte (chs sp) c)=gB sp c:=by
 have H:∀(sp:Bool) (n:Fin 256),decide (0≤Lib.indexByte (chs sp) (UInt8.ofNat n.val))=gB sp (UInt8.ofNat n.val):=by decide+kernel
 have:=H sp ⟨c.toNat,c.toNat_lt⟩
 simpa using this
theorem jr (s:ByteArray) (w:World):Calls Tryz.prog 118 #[.string s] w fun e w'=>e=.returned (.string (cs (special s.data.toList)))∧w'=w:=by
 have hsp:=fun w=>jv s w
 generalize special s.data.toList=b at hsp⊢
 have HS:=hid hsp
 clear hsp
 cases b with
 |true=>
  go_enter Tryz.func118,Tryz.ntmps118
  go_wp2_with fail
  refine(HS.out _).mono ?_
  rintro e w2 ⟨rfl,rfl⟩
  go_wp2
  go_ret
  exact⟨rfl,rfl⟩
 |false=>
  go_enter Tryz.func118,Tryz.ntmps118
  go_wp2_with fail
  refine(HS.out _).mono ?_
  rintro e w2 ⟨rfl,rfl⟩
  go_wp2
  go_ret
  exact⟨rfl,rfl⟩
theorem isSl_at (sp:Bool) (s:List UInt8) (k:Nat) (h:k<s.length):rU sp s k=gB sp s[k]:=by
 unfold rU
 rw[List.getElem?_eq_getElem h]
theorem yM (sp:Bool) (s:List UInt8) (k:Nat) (h:¬k<s.length):rU sp s k=false:=by
 unfold rU
 rw[List.getElem?_eq_none (by omega)]
theorem lJ (sc s:ByteArray) (k:Nat) (w:World) (hk:k≤1048576):Calls Tryz.prog 218 #[.string sc,.string s,.int .i64 (k:Int)] w fun e w'=>e=.returned (.bool (rU (special sc.data.toList) s.data.toList k))∧Below w.heap.size w w':=by
 have hsl:=fun w=>jr sc w
 generalize special sc.data.toList=b at hsl⊢
 have HS:=hid hsl
 clear hsl
 by_cases h:k<s.size
 ·obtain⟨c,hc⟩:∃c,s[k]=c:=⟨_,rfl⟩
  have hV:rU b s.data.toList k=gB b c:=by
   rw[isSl_at b _ k (by rw[dl];exact h)]
   exact congrArg (gB b) hc
  have hx:=fun w=>Tryz.strings_IndexByte (cs b) (c.toNat:Int) w
  have hi:=ix b c
  have e:(cs b).data.toList=chs b:=rfl
  have e2:((c.toNat:Int)).toNat.toUInt8=c:=by simp
  rw[e,e2]at hx
  rw[hV,←hi]
  obtain⟨z,hz⟩:∃z,z=Lib.indexByte (chs b) c:=⟨_,rfl⟩
  rw[←hz]at hx⊢
  have HX:=hid hx
  have hkI:(k:Int)<(s.size:Int):=by omega
  clear hx hi e e2 hV hz
  go_enter Tryz.func218,Tryz.ntmps218
  go_upto_region 1 with(fail)
  refine aV (by kernel_rfl) [is (.int .i64 (k:Int)),is (.string s),is (.int .i64 (s.size:Int)),is (.bool true),is (.bool true),is (.string sc),is (.string (cs b)),is (.string s),is (.int .i64 (k:Int)),is (.int .u8 (c.toNat:Int)),is (.int .i64 z),is (.bool (decide (0≤z))),is (.bool (decide (0≤z))),is (.bool (decide (0≤z)))] [[],[],[1],[0,2],[3],[4],[4,5],[4],[4],[4,7,8],[4,6,9],[4,10],[4,11],[12]] (by kernel_rfl) ?_ ?_
  ·refine⟨?_,?_,?_,?_,?_,?_,?_,?_,?_,?_,?_,?_,?_,?_,trivial⟩
   all_goals(intro t wq hbq hh K hK;simp only[filled,upd,Have,is,any,row,pick,Act.put,List.setIfInBounds_toArray,List.set_cons_zero,List.set_cons_succ,Nat.reduceAdd,Nat.reduceEqDiff,reduceIte,List.tail_cons,List.headD_cons]at hh hK⊢;(try simp only[hh]at hK⊢);try clear hh)
   iterate 3 · go_simp;exact hK _ _ (Below.refl _ _) rfl
   ·go_simp;first|exact hK _ _ (Below.refl _ _) rfl|exact hK _ _ (Below.refl _ _) (iC (by omega) (by omega))
   iterate 2 · go_simp;exact hK _ _ (Below.refl _ _) rfl
   ·go_simp;refine(HS.out _).mono ?_;rintro e w2 ⟨rfl,hw2⟩;subst hw2;exact hK _ _ (Below.refl _ _) rfl
   iterate 3 · go_simp;exact hK _ _ (Below.refl _ _) rfl
   ·go_simp;refine(HX.out _).mono ?_;rintro e w2 ⟨rfl,hw2⟩;subst hw2;exact hK _ _ (Below.refl _ _) rfl
   ·go_simp;first|exact hK _ _ (Below.refl _ _) rfl|exact hK _ _ (Below.refl _ _) (iC (by omega) (by omega))
   iterate 2 · go_simp;exact hK _ _ (Below.refl _ _) rfl
  intro t wq hbq hh
  have f13:=aB hh 13 (by decide)
  simp only[pick]at f13
  replace f13:t 13=(.bool (decide (0≤z))):=f13
  clear hh
  simp only[filled,upd,Have,is,any,row,pick,Act.put,List.setIfInBounds_toArray,List.set_cons_zero,List.set_cons_succ,Nat.reduceAdd,Nat.reduceEqDiff,reduceIte]
  simp only[f13]
  go_wp2
  go_ret
  exact⟨rfl,hbq⟩
 have hV:rU b s.data.toList k=false:=yM b _ k (by rw[dl];exact h)
 have hkI:¬(k:Int)<(s.size:Int):=by omega
 rw[hV]
 clear hV h
 go_enter Tryz.func218,Tryz.ntmps218
 go_upto_region 1 with(fail)
 refine aV (by kernel_rfl) [is (.int .i64 (k:Int)),is (.string s),is (.int .i64 (s.size:Int)),is (.bool false),is (.bool false),is (undef),is (undef),is (undef),is (undef),is (undef),is (undef),is (undef),is (.bool false),is (.bool false)] [[],[],[1],[0,2],[3],[4],[4,5],[4],[4],[4,7,8],[4,6,9],[4,10],[4,11],[12]] (by kernel_rfl) ?_ ?_
 ·refine⟨?_,?_,?_,?_,?_,?_,?_,?_,?_,?_,?_,?_,?_,?_,trivial⟩
  all_goals(intro t wq hbq hh K hK;simp only[filled,upd,Have,is,any,row,pick,Act.put,List.setIfInBounds_toArray,List.set_cons_zero,List.set_cons_succ,Nat.reduceAdd,Nat.reduceEqDiff,reduceIte,List.tail_cons,List.headD_cons]at hh hK⊢;(try simp only[hh]at hK⊢);try clear hh)
  iterate 3 · go_simp;exact hK _ _ (Below.refl _ _) rfl
  ·go_simp;first|exact hK _ _ (Below.refl _ _) rfl|exact hK _ _ (Below.refl _ _) (iC (by omega) (by omega))
  iterate 7 · go_simp;exact hK _ _ (Below.refl _ _) rfl
  ·go_simp;first|exact hK _ _ (Below.refl _ _) rfl|exact hK _ _ (Below.refl _ _) (iC (by omega) (by omega))
  iterate 2 · go_simp;exact hK _ _ (Below.refl _ _) rfl
 intro t wq hbq hh
 have f13:=aB hh 13 (by decide)
 simp only[pick]at f13
 replace f13:t 13=(.bool false):=f13
 clear hh
 simp only[filled,upd,Have,is,any,row,pick,Act.put,List.setIfInBounds_toArray,List.set_cons_zero,List.set_cons_succ,Nat.reduceAdd,Nat.reduceEqDiff,reduceIte]
 simp only[f13]
 go_wp2
 go_ret
 exact⟨rfl,hbq⟩
theorem Ws (sc s:ByteArray) (w:World) (hs:s.size≤1073741824):Calls Tryz.prog 227 #[.string sc,.string s] w fun e w'=>e=.returned (.tuple #[.string (strOf (s.data.toList.take (upto (special sc.data.toList) s.data.toList))),.string (strOf (s.data.toList.drop (upto (special sc.data.toList) s.data.toList)))])∧Below w.heap.size w w':=by
 have hsl:=fun w=>jr sc w
 generalize special sc.data.toList=b at hsl⊢
 have hx:=fun w=>ac0 b s w hs
 obtain⟨k,hk⟩:∃k,k=upto b s.data.toList:=⟨_,rfl⟩
 have hle:=YH b s.data.toList
 rw[dl]at hle
 rw[←hk]at hx hle⊢
 obtain⟨P,hP⟩:∃P,P=strOf (s.data.toList.take k):=⟨_,rfl⟩
 obtain⟨R,hR⟩:∃P,P=strOf (s.data.toList.drop k):=⟨_,rfl⟩
 rw[←hP,←hR]
 have h1:s.extract 0 k=P:=by rw[RU,hP]
 have h2:s.extract k s.size=R:=by rw[l7,hR]
 have HS:=hid hsl
 by_cases h:k<s.size
 ·rw[if_pos h]at hx
  have HX:=hid hx
  have hk0:¬((k:Int)<0):=by omega
  clear hsl hx hk hP hR
  go_enter Tryz.func227,Tryz.ntmps227
  go_wp2_with fail
  refine(HS.out _).mono ?_
  rintro e w2 ⟨rfl,rfl⟩
  go_wp2_with fail
  refine(HX.out _).mono ?_
  rintro e w3 ⟨rfl,hb3⟩
  have hkI:(k:Int)≤(s.size:Int):=by omega
  have hkn:(0:Int)≤(k:Int):=by omega
  go_upto_region 4 with(fail)
  refine aV (by kernel_rfl) [is (.string s),is (.int .i64 (k:Int)),is (.string P),is (.string s),is (.int .i64 (k:Int)),is (.string R),is (.string P),is (.string R)] [[],[],[0,1],[],[],[3,4],[2],[5]] (by kernel_rfl) ?_ ?_
  ·refine⟨?_,?_,?_,?_,?_,?_,?_,?_,trivial⟩
   all_goals(intro t wq hbq hh K hK;simp only[filled,upd,Have,is,any,row,pick,Act.put,List.setIfInBounds_toArray,List.set_cons_zero,List.set_cons_succ,Nat.reduceAdd,Nat.reduceEqDiff,reduceIte,List.tail_cons,List.headD_cons]at hh hK⊢;(try simp only[hh]at hK⊢);try clear hh)
   iterate 2 · go_simp;exact hK _ _ (Below.refl _ _) rfl
   ·have hx:=h1;go_simp;exact hK _ _ (Below.refl _ _) rfl
   iterate 2 · go_simp;exact hK _ _ (Below.refl _ _) rfl
   ·have hx:=h2;go_simp;exact hK _ _ (Below.refl _ _) rfl
   iterate 2 · go_simp;exact hK _ _ (Below.refl _ _) rfl
  intro t wq hbq hh
  have f6:=aB hh 6 (by decide)
  simp only[pick]at f6
  replace f6:t 6=(.string P):=f6
  have f7:=aB hh 7 (by decide)
  simp only[pick]at f7
  replace f7:t 7=(.string R):=f7
  clear hh
  simp only[filled,upd,Have,is,any,row,pick,Act.put,List.setIfInBounds_toArray,List.set_cons_zero,List.set_cons_succ,Nat.reduceAdd,Nat.reduceEqDiff,reduceIte]
  simp only[f6,f7]
  go_wp2
  go_ret2
  exact⟨rfl,bel hb3 hbq⟩
 rw[if_neg h]at hx
 have HX:=hid hx
 have hke:k=s.size:=by omega
 have h3:P=s:=by rw[hP,hke,List.take_of_length_le (by rw[dl];exact Nat.le_refl _),aG]
 have h4:R=⟨#[]⟩:=by rw[hR,hke,List.drop_of_length_le (by rw[dl];exact Nat.le_refl _)];rfl
 rw[h3,h4]
 clear hsl hx hk hP hR h1 h2 h3 h4 h hke hle
 go_enter Tryz.func227,Tryz.ntmps227
 go_wp2_with fail
 refine(HS.out _).mono ?_
 rintro e w2 ⟨rfl,rfl⟩
 go_wp2_with fail
 refine(HX.out _).mono ?_
 rintro e w3 ⟨rfl,hb3⟩
 go_wp2
 go_ret2
 exact⟨rfl,hb3⟩
theorem walk_any (sc:ByteArray) (A:Option Addr) (n cap:Nat) (l:List ByteArray) (s:ByteArray) (w:World) (hR:aY w A n (l.map Value.string)) (hnc:n≤cap) (hcm:cap≤maxLen) (hm:n+s.size≤900000):
  Calls Tryz.prog 224 #[.string sc,.slice A n cap,.string s] w (lu w.heap.size w (walk sc.data.toList l s.data.toList)):=by
 have hq:=ag9 sc
 obtain⟨b,hb⟩:∃b,b=decide (sc.data.toList=FILE):=⟨_,rfl⟩
 rw[←hb]at hq
 have hsp:=fun w=>jv sc w
 obtain⟨c,hc⟩:∃c,c=special sc.data.toList:=⟨_,rfl⟩
 rw[←hc]at hsp
 have HS:=hid hsp
 have hV:walk sc.data.toList l s.data.toList=wb b c l [] s.data.toList:=by unfold walk;rw[←hb,←hc]
 rw[hV]
 have HW:=hid (WS.walk_any b c A n cap l s w hR hnc hcm hm)
 generalize wb b c l [] s.data.toList=L at HW⊢
 clear hb hc hsp hV hR
 go_enter Tryz.func224,Tryz.ntmps224
 go_wp2_with fail
 refine(HS.out _).mono ?_
 rintro e w2 ⟨rfl,rfl⟩
 go_wp2_with fail
 refine(HW.out).mono ?_
 rintro e w3 ⟨v,rfl,ho,hb3⟩
 have HO:=hid ho
 clear ho
 go_wp2
 go_ret
 exact⟨v,rfl,HO.out,hb3⟩
where
 ag9 (sc:ByteArray):(sc.toList==[102,105,108,101])=decide (sc.data.toList=FILE):=by
  rw[Lib.toList_data,Bool.eq_iff_iff]
  exact⟨fun h=>decide_eq_true (beq_iff_eq.1 h),fun h=>beq_iff_eq.2 (of_decide_eq_true h)⟩
theorem AA (sc s:ByteArray) (w:World) (hs:s.size≤900000):Calls Tryz.prog 226 #[.string sc,.string s] w (lu w.heap.size w (rooted sc.data.toList s.data.toList)):=by
 have hsp:=fun w=>jv sc w
 have hsl:=fun w=>lJ sc s 0 w (by omega)
 obtain⟨c,hc⟩:∃c,c=special sc.data.toList:=⟨_,rfl⟩
 rw[←hc]at hsp hsl
 obtain⟨b,hb⟩:∃b,b=rU c s.data.toList 0:=⟨_,rfl⟩
 rw[←hb]at hsl
 have wC:=hid hsp
 have HSL:=hid hsl
 obtain⟨L,hL⟩:∃L,L=rooted sc.data.toList s.data.toList:=⟨_,rfl⟩
 rw[←hL]
 unfold rooted at hL
 rw[←hc,←hb]at hL
 have OL:=hid (fun(s:ByteArray) (w:World) (h:s.size≤900000)=>walk_any sc none 0 0 [] s w (aY.nil _) (Nat.le_refl _) (Nat.zero_le _) (by omega))
 by_cases h0:s.data.toList=[]
 ·have q0:(s.toList==[])=true:=by rw[Lib.toList_data,h0];rfl
  have q1:s.toList=[]:=by rw[Lib.toList_data,h0]
  have hb0:b=false:=by rw[hb,h0];rfl
  subst hb0
  cases c with
  |false=>
   have hL2:L=[]:=by rw[hL,if_pos ⟨h0,rfl⟩]
   clear hsp hsl hb hL hc h0
   go_enter Tryz.func226,Tryz.ntmps226
   go_wp2_with fail
   refine(wC.out _).mono ?_
   rintro e w2 ⟨rfl,rfl⟩
   go_wp2
   go_ret
   exact⟨_,rfl,by rw[hL2];exact World.ownsRow_nil _ _ _ _,Below.refl _ _⟩
  |true=>
   have HL:Hid (L=walk sc.data.toList [] s.data.toList):=by show _=_;rw[hL,if_neg (by simp),if_neg (by simp)]
   clear hsp hsl hb hL hc h0
   go_enter Tryz.func226,Tryz.ntmps226
   go_wp2_with fail
   refine(wC.out _).mono ?_
   rintro e w2 ⟨rfl,rfl⟩
   go_wp2_with fail
   refine(HSL.out _).mono ?_
   rintro e w2 ⟨rfl,hb2⟩
   go_wp2_with fail
   refine(OL.out s _ hs).mono ?_
   rintro e w3 ⟨v,rfl,ho,hb3⟩
   rw[←HL.out]at ho
   have HO:=hid ho
   clear ho
   go_wp2
   go_ret
   exact⟨v,rfl,ay HO.out hb2.size,bel hb2 hb3⟩
 have q0:(s.toList==[])=false:=by rw[Lib.toList_data,beq_eq_false_iff_ne];exact h0
 have q1:¬s.toList=[]:=by rw[Lib.toList_data];exact h0
 have q2:s.toList.isEmpty=false:=by rw[Lib.toList_data];simpa using h0
 have hlen:1≤s.size:=by
  rw[←dl]
  cases e:s.data.toList with
  |nil=>exact absurd e h0
  |cons c r=>simp
 have h1i:(1:Int)≤(s.size:Int):=by omega
 obtain⟨X,hX⟩:∃X,X=s.extract 1 s.size:=⟨_,rfl⟩
 have NQ:X.data.toList=s.data.toList.drop 1:=by rw[hX,ext_right]
 have hXs:X.size≤900000:=by rw[hX,ByteArray.size_extract];omega
 have HL:Hid (L=walk sc.data.toList [] (if b=true then X.data.toList else s.data.toList)):=by show _=_;rw[hL,if_neg (fun h=>h0 h.1),NQ]
 have HX:=hid hX
 clear hsp hsl hb hL hc h0 hX NQ
 cases b with
 |true=>
  go_enter Tryz.func226,Tryz.ntmps226
  go_wp2_with fail
  refine(HSL.out _).mono ?_
  rintro e w2 ⟨rfl,hb2⟩
  go_wp2_with fail
  rw[←HX.out]
  refine(OL.out X _ hXs).mono ?_
  rintro e w3 ⟨v,rfl,ho,hb3⟩
  have HO:Hid (w3.ownsRow w2.heap.size 9 1 v L.length (L.map Value.string)):=by show World.ownsRow _ _ _ _ _ _ _;rw[HL.out];first|(rw[if_pos rfl];exact ho)|(rw[if_pos trivial];exact ho)
  clear ho
  go_wp2
  go_ret
  exact⟨v,rfl,ay HO.out hb2.size,bel hb2 hb3⟩
 |false=>
  go_enter Tryz.func226,Tryz.ntmps226
  go_wp2_with fail
  refine(HSL.out _).mono ?_
  rintro e w2 ⟨rfl,hb2⟩
  go_wp2_with fail
  refine(OL.out s _ hs).mono ?_
  rintro e w3 ⟨v,rfl,ho,hb3⟩
  have HO:Hid (w3.ownsRow w2.heap.size 9 1 v L.length (L.map Value.string)):=by show World.ownsRow _ _ _ _ _ _ _;rw[HL.out];first|(rw[if_neg (by simp)];exact ho)|(simpa using ho)
  clear ho
  go_wp2
  go_ret
  exact⟨v,rfl,ay HO.out hb2.size,bel hb2 hb3⟩
end Go.Proofs.YtmpeaoacaecgpaaGreatDoor.yw
namespace Go.Proofs.YtmpeaoacaecgpaaGreatDoor.tN
open Go.RowKit Base Base2 dI cO UrlA PrsP yw
theorem wR:∀L:List UInt8,nV L=none↔∀c ∈ L,c≠64
 |[]=>by simp[nV]
 | c ::L=>by
  have ih:=wR L
  unfold nV
  cases h:nV L with
  |some p=>
   constructor
   ·intro e;cases e
   ·intro e
    rw[h]at ih
    have:=ih.2 fun d hd=>e d (by simp[hd])
    cases this
  | none=>
   rw[h]at ih
   have hno:=ih.1 rfl
   by_cases hc:c=64
   ·rw[if_pos hc]
    constructor
    ·intro e;cases e
    ·intro e;exact absurd hc (e c (by simp))
   ·rw[if_neg hc]
    constructor
    ·intro _ d hd
     rcases List.mem_cons.1 hd with rfl|hd
     ·exact hc
     ·exact hno d hd
    ·intro _;rfl
theorem GL (a r:List UInt8) (h:∀c ∈ r,c≠64):nV (a++64::r)=some (a,r):=by
 induction a with
 |nil=>
  show nV (64::r)=_
  unfold nV
  rw[(wR r).2 h]
  rfl
 |cons c a ih=>
  show nV (c::(a++64::r))=_
  unfold nV
  rw[ih]
theorem Xh (s:ByteArray) (j:Nat) (h:j<s.data.toList.length):s.data[j]! =s.data.toList[j]:=by
 rw[getElem!_pos s.data j (by simpa using h)]
 simp
theorem ahT (s:ByteArray):(Lib.lastIndexByte s 64= -1∧nV s.data.toList=none)∨∃k:Nat,k<s.size∧Lib.lastIndexByte s 64=(k:Int)∧nV s.data.toList=some (s.data.toList.take k,s.data.toList.drop (k+1)):=by
 rcases Lib.lastIdx_spec s 64 s.size with⟨h1,h2⟩|⟨k,hk,h1,h2,h3⟩
 ·refine .inl ⟨h1,(wR _).2 fun c hc=>?_⟩
  obtain⟨j,hj,rfl⟩:=List.getElem_of_mem hc
  have:=h2 j (by rw[←dl];exact hj)
  rw[Xh s j hj]at this
  intro e
  rw[e]at this
  exact this rfl
 refine .inr ⟨k,hk,h1,?_⟩
 have hkl:k<s.data.toList.length:=by rw[dl];exact hk
 rw[Xh s k hkl]at h2
 have h64:s.data.toList[k]=64:=UInt8.toNat_inj.1 (by show _=64;omega)
 have hs:s.data.toList=s.data.toList.take k++64::s.data.toList.drop (k+1):=by
  rw[←h64,←List.drop_eq_getElem_cons hkl,List.take_append_drop]
 conv=>lhs;rw[hs]
 refine GL _ _ fun c hc=>?_
 obtain⟨j,hj,rfl⟩:=List.getElem_of_mem hc
 rw[List.length_drop]at hj
 rw[List.getElem_drop]
 have:=h3 (k+1+j) (by omega) (by rw[←dl];omega)
 rw[Xh s _ (by omega)]at this
 intro e
 rw[e]at this
 exact this rfl
def vF (s:List UInt8) (k:Nat) (i:Bool):List UInt8×List UInt8×Bool:=(s.take k++(hap i (s.drop k)).1,(hap i (s.drop k)).2.1,(hap i (s.drop k)).2.2)
theorem adJ (s:List UInt8):vF s 0 false=hap false s:=by simp[vF]
theorem ahI (s:List UInt8) (i:Bool):vF s s.length i=(s,[],false):=by
 unfold vF
 rw[List.drop_length,List.take_length]
 simp[hap]
theorem adI (s:List UInt8) (k:Nat) (h:k<s.length) (hc:s[k]=58):vF s k false=(s.take k,s.drop (k+1),true):=by
 unfold vF
 rw[List.drop_eq_getElem_cons h,hc,hap,if_pos ⟨rfl,rfl⟩]
 simp
theorem IU (s:List UInt8) (k:Nat) (i:Bool) (h:k<s.length) (hc:¬(s[k]=58∧i=false)):vF s k i=vF s (k+1) (if s[k]=91 then true else if s[k]=93 then false else i):=by
 unfold vF
 rw[List.drop_eq_getElem_cons h,hap,if_neg hc,List.take_succ_eq_append_getElem h]
 generalize (if s[k]=91 then true else if s[k]=93 then false else i)=b
 rw[List.append_assoc]
 rfl
theorem EJ:∀(L:List UInt8) (i:Bool),(hap i L).1.length≤L.length∧(hap i L).2.1.length≤L.length
 |[],i=>by simp[hap]
 |c::L,i=>by
  unfold hap
  split
  ·simp
  ·have:=EJ L (if c=91 then true else if c=93 then false else i)
   generalize (if c=91 then true else if c=93 then false else i)=b at this⊢
   simp only[List.length_cons]
   omega
theorem Lj (d:List UInt8) (c:UInt8):FH (d++[c])=min (FH d*10+(c.toNat - 48)) 65536:=by simp[FH]
theorem dgt_val (c:UInt8) (h:Fz c=true):48≤c.toNat∧c.toNat≤57:=by
 unfold Fz digit at h
 have:=of_decide_eq_true h
 omega
def PrtV (o:Option Int) (e:Ending):Prop:=match o with
 |some z=>e=.returned (.tuple #[.int .i64 z,.bool true])
 |none=>∃z,e=.returned (.tuple #[.int .i64 z,.bool false])
theorem prt_bad (au d:List UInt8) (k:Nat) (h:k<d.length) (hd:Fz d[k]=false):prt au d=none:=by
 unfold prt
 rw[if_neg (by rintro rfl;simp at h),if_neg]
 intro e
 have:=List.all_eq_true.1 e d[k] (List.getElem_mem h)
 rw[hd]at this
 cases this
theorem abb (au d:List UInt8) (h:d≠[]) (ha:d.all Fz=true):prt au d=if (FH d:Int)=portOf au then some (-1)else if FH d≤65535 then some (FH d:Int)else none:=by
 unfold prt
 rw[if_neg h,if_pos ha]
theorem TN (d:List UInt8) (k:Nat) (h:k<d.length):(d.take (k+1)).all Fz=((d.take k).all Fz&&Fz d[k]):=by
 rw[List.take_succ_eq_append_getElem h,List.all_append]
 simp
theorem Q8 (d:List UInt8) (k:Nat) (h:k<d.length):FH (d.take (k+1))=min (FH (d.take k)*10+(d[k].toNat - 48)) 65536:=by
 rw[List.take_succ_eq_append_getElem h,Lj]
def oC (s:List UInt8) (k:Nat):Bool:=match s[k]? with
 |none=>true
 |some c=>letter c.toNat||(decide (k≠0)&&NT c)
theorem Vs (s:List UInt8):lI s=(decide (s≠[])&&(List.range s.length).all (oC s)):=by
 cases s with
 |nil=>rfl
 | cons c r=>
  unfold lI
  rw[List.length_cons,List.range_succ_eq_map,List.all_cons,List.all_map]
  have h0:oC (c::r) 0=letter c.toNat:=by unfold oC;simp
  rw[h0]
  simp only[ne_eq,reduceCtorEq,not_false_eq_true,decide_true,Bool.true_and]
  congr 1
  have hr:∀k,(oC (c::r) ∘ Nat.succ) k=match r[k]? with
    |none=>true
    |some d=>NT d:=by
   intro k
   show oC (c::r) (k+1)=_
   unfold oC
   rw[List.getElem?_cons_succ]
   cases r[k]? with
   |none=>rfl
   |some d=>
    simp only[ne_eq,Nat.add_eq_zero_iff,Nat.one_ne_zero,and_false,not_false_eq_true,decide_true,Bool.true_and]
    unfold NT
    cases letter d.toNat<;>simp
  rw[Bool.eq_iff_iff,List.all_eq_true,List.all_eq_true]
  constructor
  ·intro h k hk
   rw[hr k,List.getElem?_eq_getElem (by simpa using hk)]
   exact h _ (List.getElem_mem _)
  intro h d hd
  obtain⟨k,hk,rfl⟩:=List.getElem_of_mem hd
  have:=h k (by simpa using hk)
  rw[hr k,List.getElem?_eq_getElem hk]at this
  exact this
theorem ame (s:List UInt8) (k:Nat) (h:k<s.length) (hb:oC s k=false):lI s=false:=by
 rw[Vs]
 have:(List.range s.length).all (oC s)=false:=by
  cases e:(List.range s.length).all (oC s)with
  |false=>rfl
  |true=>
   have:=List.all_eq_true.1 e k (by simpa using h)
   rw[hb]at this
   cases this
 rw[this,Bool.and_false]
theorem ahS (s:List UInt8) (h:∀k,k<s.length→oC s k=true):lI s=decide (s≠[]):=by
 rw[Vs,List.all_eq_true.2 fun k hk=>h k (by simpa using hk),Bool.and_true]
theorem anu (s:List UInt8) (k:Nat) (h:k<s.length):oC s k=(letter s[k].toNat||(decide (k≠0)&&NT s[k])):=by
 unfold oC
 rw[List.getElem?_eq_getElem h]
end Go.Proofs.YtmpeaoacaecgpaaGreatDoor.tN
namespace Go.Proofs.YtmpeaoacaecgpaaGreatDoor.Fp
open Go.RowKit Base Regs Base2 dI cO UrlA PrsP yw tN
theorem Xv (c k:UInt8) (h:c=k):((c.toNat:Int)==(k.toNat:Int))=true:=by rw[h];simp
theorem Xw (c k:UInt8) (h:c≠k):((c.toNat:Int)==(k.toNat:Int))=false:=by
 rw[beq_eq_false_iff_ne]
 intro e
 exact h (UInt8.toNat_inj.1 (by omega))
theorem Bq (s : ByteArray) (w : World) (hs : s.size ≤ 1073741824) : Calls Tryz.prog 229 #[.string s] w fun e w' => e = .returned (.tuple #[.string (strOf (hap false s.data.toList).1), .string (strOf (hap false s.data.toList).2.1), .bool (hap false s.data.toList).2.2]) ∧ Below w.heap.size w w' := by
 obtain⟨T,hT⟩:∃T,T=hap false s.data.toList:=⟨_,rfl⟩
 rw[←hT]
 have HT0:Hid (vF s.data.toList 0 false=T):=by show _=_;rw[adJ,hT]
 clear hT
 go_enter Tryz.func229,Tryz.ntmps229
 go_wp2
 go_loopw [5,6] (fun vi vk wr=>∃(k:Nat) (i:Bool),k≤s.size∧vk=.int .i64 (k:Int)∧vi=.bool i∧wr=w∧Hid (vF s.data.toList k i=T)) (fun _ vk _=>s.size - (intOf vk).toNat)
 case atStart=>exact⟨0,false,Nat.zero_le _,rfl,rfl,rfl,HT0.out⟩
 case round=>
  obtain⟨k,i,hk,rfl,rfl,hwr,HT⟩:=hrel
  subst hwr
  by_cases hlt:k<s.size
  ·obtain ⟨c,hc⟩:∃c,s[k]=c:=⟨_,rfl⟩
   have hkl:k<s.data.toList.length:=by rw[dl];exact hlt
   have hcl:s.data.toList[k]=c:=hc
   by_cases PL:c=91
   ·have q1:((c.toNat:Int)==91)=true:=Xv c 91 PL
    have HN:Hid (vF s.data.toList (k+1) true=T):=by
     show _=_
     rw[←HT.out,IU _ k i hkl (by rw[hcl,PL];simp),hcl,if_pos PL]
    clear hkl hcl PL
    go_wp2
    go_roundw
    case rel=>exact⟨k+1,true,by omega,by go_num,rfl,by first|rfl|trivial,HN.out⟩
    case measure=>simp[intOf];omega
   have q1:((c.toNat:Int)==91)=false:=Xw c 91 PL
   by_cases h93:c=93
   ·have q2:((c.toNat:Int)==93)=true:=Xv c 93 h93
    have HN:Hid (vF s.data.toList (k+1) false=T):=by
     show _=_
     rw[←HT.out,IU _ k i hkl (by rw[hcl,h93];simp),hcl,if_neg PL,if_pos h93]
    clear hkl hcl PL h93
    go_wp2
    go_roundw
    case rel=>exact⟨k+1,false,by omega,by go_num,rfl,by first|rfl|trivial,HN.out⟩
    case measure=>simp[intOf];omega
   have q2:((c.toNat:Int)==93)=false:=Xw c 93 h93
   by_cases IQ:c=58
   ·have q3:((c.toNat:Int)==58)=true:=Xv c 58 IQ
    cases i with
    | false=>
     have HE:Hid (T=(s.data.toList.take k,s.data.toList.drop (k+1),true)):=by
      show _=_
      rw[←HT.out,adI _ k hkl (by rw[hcl,IQ])]
     obtain⟨P,hPP⟩:∃P,P=strOf (s.data.toList.take k):=⟨_,rfl⟩
     obtain⟨Q,hQQ⟩:∃P,P=strOf (s.data.toList.drop (k+1)):=⟨_,rfl⟩
     have e1:s.extract 0 k=P:=by rw[hPP];exact RU s k
     have e2:s.extract (k+1) s.size=Q:=by rw[hQQ];exact l7 s (k+1)
     have HPP:=hid hPP
     have HQQ:=hid hQQ
     clear hPP hQQ
     have hk1:(k:Int)+1≤(s.size:Int):=by omega
     have hkI:(k:Int)≤(s.size:Int):=by omega
     have hk0:k≤s.size:=hk
     have hkt:((k:Int)+1).toNat=k+1:=by omega
     clear hkl hcl PL h93 IQ
     go_upto_region 10 with(fail)
     refine aV (by kernel_rfl) [is (.string s),is (.int .i64 (k:Int)),is (.string P),is (.string s),is (.int .i64 (k:Int)),is (.int .i64 ((k:Int)+1)),is (.string Q),is (.string P),is (.string Q),is (.bool true)] [[],[],[0,1],[],[],[4],[3,5],[2],[6],[]] (by kernel_rfl) ?_ ?_
     ·refine⟨?_,?_,?_,?_,?_,?_,?_,?_,?_,?_,trivial⟩
      all_goals(intro t wq hbq hh K hK;simp only[filled,upd,Have,is,any,row,pick,Act.put,List.setIfInBounds_toArray,List.set_cons_zero,List.set_cons_succ,Nat.reduceAdd,Nat.reduceEqDiff,reduceIte,List.tail_cons,List.headD_cons]at hh hK⊢)
      iterate 2 · (try clear hh);go_simp;exact hK _ _ (Below.refl _ _) rfl
      ·have e1:t 1=(.int .i64 (k:Int)):=hh.2.1;simp only[hh,e1]at hK⊢;clear hh;have hx:=e1;go_simp;exact hK _ _ (Below.refl _ _) rfl
      iterate 2 · (try clear hh);go_simp;exact hK _ _ (Below.refl _ _) rfl
      ·simp only[hh]at hK⊢;clear hh;go_simp;first|exact hK _ _ (Below.refl _ _) rfl|exact hK _ _ (Below.refl _ _) (iC (by omega) (by omega))
      ·simp only[hh]at hK⊢
       clear hh
       have hx:=e2
       have hkt:((k:Int)+1).toNat=k+1:=by omega
       go_simp
       exact hK _ _ (Below.refl _ _) rfl
      iterate 2 · simp only[hh]at hK⊢;clear hh;go_simp;exact hK _ _ (Below.refl _ _) rfl
      (try clear hh);go_simp;exact hK _ _ (Below.refl _ _) rfl
     intro t wq hbq hh
     have f7:=aB hh 7 (by decide)
     simp only[pick]at f7
     replace f7:t 7=(.string P):=f7
     have f8:=aB hh 8 (by decide)
     simp only[pick]at f8
     replace f8:t 8=(.string Q):=f8
     have f9:=aB hh 9 (by decide)
     simp only[pick]at f9
     replace f9:t 9=(.bool true):=f9
     clear hh
     simp only[filled,upd,Have,is,any,row,pick,Act.put,List.setIfInBounds_toArray,List.set_cons_zero,List.set_cons_succ,Nat.reduceAdd,Nat.reduceEqDiff,reduceIte]
     simp only[f7,f8,f9]
     go_wp2
     go_ret3
     exact⟨by rw[HE.out,←HPP.out,←HQQ.out];rfl,hbq⟩
    |true=>
     have HN:Hid (vF s.data.toList (k+1) true=T):=by
      show _=_
      rw[←HT.out,IU _ k true hkl (by simp),hcl,if_neg PL,if_neg h93]
     clear hkl hcl PL h93 IQ
     go_wp2
     go_roundw
     case rel=>exact⟨k+1,true,by omega,by go_num,rfl,by first|rfl|trivial,HN.out⟩
     case measure=>simp[intOf];omega
   have q3:((c.toNat:Int)==58)=false:=Xw c 58 IQ
   have HN:Hid (vF s.data.toList (k+1) i=T):=by
    show _=_
    rw[←HT.out,IU _ k i hkl (fun h=>IQ (hcl▸h.1)),hcl,if_neg PL,if_neg h93]
   clear hkl hcl PL h93 IQ
   go_wp2
   go_roundw
   case rel=>exact⟨k+1,i,by omega,by go_num,rfl,by first|rfl|trivial,HN.out⟩
   case measure=>simp[intOf];omega
  obtain rfl:k=s.size:=by omega
  have HE:Hid (T=(s.data.toList,[],false)):=by
   show _=_
   rw[←HT.out,←dl,ahI]
  go_wp2
  go_ret3
  exact⟨by rw[HE.out,aG];rfl,Below.refl _ _⟩
theorem aa4 (sc d:ByteArray) (w:World) (hs:d.size≤1073741824):Calls Tryz.prog 231 #[.string sc,.string d] w fun e w'=>PrtV (prt sc.data.toList d.data.toList) e∧w'=w:=by
 obtain⟨o,ho⟩:∃o,o=prt sc.data.toList d.data.toList:=⟨_,rfl⟩
 rw[←ho]
 have HP:=hid ho
 by_cases h0:d.data.toList=[]
 ·have q0:(d.toList==[])=true:=by rw[Lib.toList_data,h0];rfl
  have q1:d.toList=[]:=by rw[Lib.toList_data,h0]
  have HE:Hid (o=some (-1)):=by show _=_;rw[HP.out,h0];rfl
  clear ho h0
  go_enter Tryz.func231,Tryz.ntmps231
  go_wp2
  go_ret2
  exact⟨by rw[HE.out];rfl,rfl⟩
 have q0:(d.toList==[])=false:=by rw[Lib.toList_data,beq_eq_false_iff_ne];exact h0
 have q1:¬d.toList=[]:=by rw[Lib.toList_data];exact h0
 have q2:d.toList.isEmpty=false:=by rw[Lib.toList_data];simpa using h0
 have H0:Hid (d.data.toList≠[]):=h0
 have hdef:=fun w=>ML sc w
 obtain⟨D,hD⟩:∃D,D=portOf sc.data.toList:=⟨_,rfl⟩
 rw[←hD]at hdef
 have HD:=hid hdef
 have Td:=hid hD
 clear ho h0 hdef hD
 go_enter Tryz.func231,Tryz.ntmps231
 go_wp2
 go_loopw [6,7] (fun vn vk wr=>∃(k n:Nat),k≤d.size∧vk=.int .i64 (k:Int)∧vn=.int .i64 (n:Int)∧n≤65536∧wr=w∧Hid (n=FH (d.data.toList.take k))∧Hid ((d.data.toList.take k).all Fz=true)) (fun _ vk _=>d.size - (intOf vk).toNat)
 case atStart=>exact⟨0,0,Nat.zero_le _,rfl,rfl,by omega,rfl,rfl,rfl⟩
 case round=>
  obtain⟨k,n,hk,rfl,rfl,hn,hwr,HN,HA⟩:=hrel
  subst hwr
  by_cases hlt:k<d.size
  ·obtain⟨c,hc⟩:∃c,d[k]=c:=⟨_,rfl⟩
   have hkl:k<d.data.toList.length:=by rw[dl];exact hlt
   have hcl:d.data.toList[k]=c:=hc
   have hdg:=fun w=>fE (c.toNat:Int) w
   cases hd:digit (c.toNat:Int)with
   |false=>
    have HE:Hid (o=none):=by show _=_;rw[HP.out];exact prt_bad _ _ k hkl (by rw[hcl];exact hd)
    rw[hd]at hdg
    have Tv:=hid hdg
    clear hkl hcl hd hdg
    go_wp2_with fail
    refine(Tv.out _).mono ?_
    rintro e w2 ⟨rfl,hw2⟩
    subst hw2
    go_wp2
    go_ret2
    exact⟨by rw[HE.out];exact⟨_,rfl⟩,rfl⟩
   |true=>
    rw[hd]at hdg
    have Tv:=hid hdg
    obtain⟨v1,v2⟩:=dgt_val c hd
    obtain⟨m,hm⟩:∃m,m=min (n*10+(c.toNat - 48)) 65536:=⟨_,rfl⟩
    have xE:Hid (m=FH (d.data.toList.take (k+1))):=by show _=_;rw[Q8 _ k hkl,hcl,←HN.out,hm]
    have HA2:Hid ((d.data.toList.take (k+1)).all Fz=true):=by show _=_;rw[TN _ k hkl,HA.out,hcl];exact hd
    have hmI:min ((n:Int)*10+((c.toNat:Int) - 48)) 65536=(m:Int):=by omega
    have hm2:m≤65536:=by omega
    have hc1:48≤(c.toNat:Int):=by omega
    have hc2:(c.toNat:Int)≤57:=by omega
    clear hkl hcl hd hdg hm v1 v2
    go_wp2_with fail
    refine(Tv.out _).mono ?_
    rintro e w2 ⟨rfl,hw2⟩
    subst hw2
    go_wp2
    go_roundw
    case rel=>exact⟨k+1,m,by omega,by go_num,by first|rfl|(rw[←hmI];congr 1;omega)|(simp only[←hmI];first|rfl|(congr 1;split<;>omega)),hm2,by first|rfl|trivial,xE.out,HA2.out⟩
    case measure=>simp[intOf];omega
  obtain rfl:k=d.size:=by omega
  have HE:Hid (o=if (n:Int)=D then some (-1)else if n≤65535 then some (n:Int)else none):=by
   show _=_
   have h1:=HN.out
   have h2:=HA.out
   rw[List.take_of_length_le (by rw[dl];exact Nat.le_refl _)]at h1 h2
   rw[HP.out,abb _ _ H0.out h2,←h1,←Td.out]
  by_cases hd:(n:Int)=D
  ·have HE2:Hid (o=some (-1)):=by show _=_;rw[HE.out,if_pos hd]
   have q3:((n:Int)==D)=true:=by rw[beq_iff_eq];exact hd
   clear hd
   go_wp2_with fail
   refine(HD.out _).mono ?_
   rintro e w2 ⟨rfl,hw2⟩
   subst hw2
   go_wp2
   go_ret2
   exact⟨by rw[HE2.out];rfl,rfl⟩
  have q3:((n:Int)==D)=false:=by rw[beq_eq_false_iff_ne];exact hd
  by_cases h6:n≤65535
  ·have HE2:Hid (o=some (n:Int)):=by show _=_;rw[HE.out,if_neg hd,if_pos h6]
   have h6i:(n:Int)≤65535:=by omega
   clear hd
   go_wp2_with fail
   refine(HD.out _).mono ?_
   rintro e w2 ⟨rfl,hw2⟩
   subst hw2
   go_wp2
   go_ret2
   exact⟨by rw[HE2.out];rfl,rfl⟩
  have HE2:Hid (o=none):=by show _=_;rw[HE.out,if_neg hd,if_neg h6]
  have h6i:¬(n:Int)≤65535:=by omega
  clear hd
  go_wp2_with fail
  refine(HD.out _).mono ?_
  rintro e w2 ⟨rfl,hw2⟩
  subst hw2
  go_wp2
  go_ret2
  exact⟨by rw[HE2.out];exact⟨(n:Int),congrArg (fun b=>Ending.returned (.tuple #[.int .i64 (n:Int),.bool b])) (decide_eq_false (by omega))⟩,rfl⟩
theorem XW (s:ByteArray) (w:World) (hs:s.size≤1073741824):Calls Tryz.prog 111 #[.string s] w fun e w'=>e=.returned (.bool (lI s.data.toList))∧w'=w:=by
 obtain⟨V,hV⟩:∃V,V=lI s.data.toList:=⟨_,rfl⟩
 rw[←hV]
 have HV:=hid hV
 clear hV
 have hixx:=ix3
 go_enter Tryz.func111,Tryz.ntmps111
 go_wp2
 go_loopw [3] (fun vk wr=>∃k:Nat,k≤s.size∧vk=.int .i64 (k:Int)∧wr=w∧Hid (∀j,j<k→oC s.data.toList j=true)) (fun vk _=>s.size - (intOf vk).toNat)
 case atStart=>exact⟨0,Nat.zero_le _,rfl,rfl,fun j h=>by omega⟩
 case round=>
  obtain⟨k,hk,rfl,hwr,HA⟩:=hrel
  subst hwr
  by_cases hlt:k<s.size
  ·obtain ⟨c,hc⟩:∃c,s[k]=c:=⟨_,rfl⟩
   have hkl:k<s.data.toList.length:=by rw[dl];exact hlt
   have hcl:s.data.toList[k]=c:=hc
   have hat:oC s.data.toList k=(letter (c.toNat:Int)||(decide (k≠0)&&NT c)):=by rw[anu _ k hkl,hcl]
   have hno:=ame s.data.toList k hkl
   have hlet:=fun w=>dN (c.toNat:Int) w
   have hdig:=fun w=>fE (c.toNat:Int) w
   have hix:=fun w=>Tryz.strings_IndexByte ⟨#[43,45,46]⟩ (c.toNat:Int) w
   have e2:((c.toNat:Int)).toNat.toUInt8=c:=by simp
   rw[e2,show(⟨#[43,45,46]⟩:ByteArray).data.toList=[43,45,46]from rfl]at hix
   have hi3:=hixx c
   obtain⟨z,hz⟩:∃z,z=Lib.indexByte [43,45,46] c:=⟨_,rfl⟩
   rw[←hz]at hix hi3
   have HNX:Hid (oC s.data.toList k=true→∀j,j<k+1→oC s.data.toList j=true):=by
    intro h j hj
    by_cases hjk:j<k
    ·exact HA.out j hjk
    obtain rfl:j=k:=by omega
    exact h
   obtain⟨l,hl⟩:∃l,l=letter (c.toNat:Int):=⟨_,rfl⟩
   obtain⟨g,hg⟩:∃l,l=digit (c.toNat:Int):=⟨_,rfl⟩
   have hsc:NT c=(l||(g||decide (0≤z))):=by unfold NT;rw[hi3,hl,hg]
   rw[←hl]at hlet hat
   rw[←hg]at hdig
   rw[hsc]at hat
   have HL:=hid hlet
   have HG:=hid hdig
   have HX:=hid hix
   have HAT:=hid hat
   have qc:=hid hno
   clear hkl hcl hlet hdig hix e2 hi3 hz hl hg hsc hat hno
   cases l with
   |true=>
    have HN:Hid (∀j,j<k+1→oC s.data.toList j=true):=HNX.out (by rw[HAT.out];rfl)
    go_wp2_with fail
    refine(HL.out _).mono ?_
    rintro e w2 ⟨rfl,hw2⟩
    subst hw2
    go_wp2
    go_roundw
    case rel=>exact⟨k+1,by omega,by go_num,by first|rfl|trivial,HN.out⟩
    case measure=>simp[intOf];omega
   | false=>
    by_cases hk0:k=0
    ·have HE:Hid (V=false):=by show _=_;rw[HV.out];exact qc.out (by rw[HAT.out,hk0];rfl)
     have q0:((k:Int)==0)=true:=by rw[hk0];rfl
     clear hk0
     go_wp2_with fail
     refine(HL.out _).mono ?_
     rintro e w2 ⟨rfl,hw2⟩
     subst hw2
     go_wp2
     go_ret
     exact⟨ak (by rw[HE.out]),rfl⟩
    have q0:((k:Int)==0)=false:=by rw[beq_eq_false_iff_ne];omega
    have HAT2:Hid (oC s.data.toList k=(g||decide (0≤z))):=by show _=_;rw[HAT.out,decide_eq_true hk0];rfl
    clear hk0
    cases g with
    |true=>
     have HN:Hid (∀j,j<k+1→oC s.data.toList j=true):=HNX.out (by rw[HAT2.out];rfl)
     go_wp2_with fail
     refine(HL.out _).mono ?_
     rintro e w2 ⟨rfl,hw2⟩
     subst hw2
     go_wp2_with fail
     refine(HG.out _).mono ?_
     rintro e w2 ⟨rfl,hw2⟩
     subst hw2
     go_wp2
     go_roundw
     case rel=>exact⟨k+1,by omega,by go_num,by first|rfl|trivial,HN.out⟩
     case measure=>simp[intOf];omega
    |false=>
     by_cases hz0:0≤z
     ·have HN:Hid (∀j,j<k+1→oC s.data.toList j=true):=HNX.out (by rw[HAT2.out,decide_eq_true hz0];rfl)
      have hz1:¬z<0:=by omega
      go_wp2_with fail
      refine(HL.out _).mono ?_
      rintro e w2 ⟨rfl,hw2⟩
      subst hw2
      go_wp2_with fail
      refine(HG.out _).mono ?_
      rintro e w2 ⟨rfl,hw2⟩
      subst hw2
      go_wp2_with fail
      refine(HX.out _).mono ?_
      rintro e w2 ⟨rfl,hw2⟩
      subst hw2
      go_wp2
      go_roundw
      case rel=>exact⟨k+1,by omega,by go_num,by first|rfl|trivial,HN.out⟩
      case measure=>simp[intOf];omega
     have HE:Hid (V=false):=by show _=_;rw[HV.out];exact qc.out (by rw[HAT2.out,decide_eq_false hz0];rfl)
     have hz1:z<0:=by omega
     go_wp2_with fail
     refine(HL.out _).mono ?_
     rintro e w2 ⟨rfl,hw2⟩
     subst hw2
     go_wp2_with fail
     refine(HG.out _).mono ?_
     rintro e w2 ⟨rfl,hw2⟩
     subst hw2
     go_wp2_with fail
     refine(HX.out _).mono ?_
     rintro e w2 ⟨rfl,hw2⟩
     subst hw2
     go_wp2
     go_ret
     exact⟨ak (by rw[HE.out]),rfl⟩
  obtain rfl:k=s.size:=by omega
  have hE:V=decide (s.data.toList≠[]):=by rw[HV.out];exact ahS _ fun j hj=>HA.out j (by rw[dl]at hj;exact hj)
  by_cases h0:s.data.toList=[]
  ·have HE:Hid (V=false):=by show _=_;rw[hE];exact decide_eq_false (fun h=>h h0)
   have q0:(s.toList==[])=true:=by rw[Lib.toList_data,h0];rfl
   have q1:s.toList=[]:=by rw[Lib.toList_data,h0]
   clear hE h0
   go_wp2
   go_ret
   exact⟨ak (by rw[HE.out]),rfl⟩
  have HE:Hid (V=true):=by show _=_;rw[hE];exact decide_eq_true h0
  have q0:(s.toList==[])=false:=by rw[Lib.toList_data,beq_eq_false_iff_ne];exact h0
  have q1:¬s.toList=[]:=by rw[Lib.toList_data];exact h0
  have q2:s.toList.isEmpty=false:=by rw[Lib.toList_data];simpa using h0
  clear hE h0
  go_wp2
  go_ret
  exact⟨ak (by rw[HE.out]),rfl⟩
where
 ix3 (c:UInt8):(decide (c=43)||(decide (c=45)||decide (c=46)))=decide (0≤Lib.indexByte [43,45,46] c):=by
  have H:∀n:Fin 256,(decide (UInt8.ofNat n.val=43)||(decide (UInt8.ofNat n.val=45)||decide (UInt8.ofNat n.val=46)))=decide (0≤Lib.indexByte [43,45,46] (UInt8.ofNat n.val)):=by decide+kernel
  have:=H ⟨c.toNat,c.toNat_lt⟩
  simpa using this
end Go.Proofs.YtmpeaoacaecgpaaGreatDoor.Fp
namespace Go.Proofs.YtmpeaoacaecgpaaGreatDoor.tK
open Go.RowKit Base Regs Base2 dI cO PthG PthH UrlA PrsP yw tN Fp mW
def Own (w0 w:World) (u:U) (A:Option Addr) (n c:Nat):Prop:=w.ownsRow w0.heap.size 9 1 (.slice A n c) n (u.aO.map Value.string)
theorem Own.aO {w0 w:World} {u:U} {A:Option Addr} {n c:Nat} (h:Own w0 w u A n c):dR w u A n c:=by
 obtain⟨A',c',e,h1,h2,h3⟩:=aJ h
 cases e
 exact⟨h3,h1,h2⟩
theorem Own.below {w0 w w':World} {u:U} {A:Option Addr} {n c:Nat} (h:Own w0 w u A n c) (hb:Below w.heap.size w w'):Own w0 w' u A n c:=aP h hb
theorem Own.row {w0 w:World} {u:U} {A:Option Addr} {n c g:Nat} (h:Own w0 w u A n c) (hg:g<w0.heap.size) (cs:Array Value):Own w0 (w.setRow g cs) u A n c:=gU.aN (gb:=g) h (fun k hk=>setRow_other _ _ _ _ hk) hg
theorem Own.base {w0 w1 w:World} {u:U} {A:Option Addr} {n c:Nat} (h:Own w1 w u A n c) (hb:w0.heap.size≤w1.heap.size):Own w0 w u A n c:=ay h hb
theorem wY (w0 w:World) {u:U} (h:u.aO=[]):Own w0 w u none 0 0:=by
 unfold Own
 rw[h]
 exact World.ownsRow_nil _ _ _ _
def mO (w:World) (o:Option U) (e:Ending) (w':World):Prop:=Below w.heap.size w w'∧∃u A n c ok,e=.returned (.tuple #[.agg (cells u (.slice A n c)),.bool ok])∧Own w w' u A n c∧(o=some u∧ok=true∨o=none∧ok=false∧u=U0)
end Go.Proofs.YtmpeaoacaecgpaaGreatDoor.tK
namespace Go.Proofs.YtmpeaoacaecgpaaGreatDoor.sU
open Go.RowKit Base Base2 cO oO jQ HstP Zo WJ pO
theorem bY {w w':World} (h:Tab.Pow w) (hb:Below w.heap.size w w'):Tab.Pow w':=Tab.Pow.below h hb
theorem Vz (L:List UInt8):(lower L).length=L.length:=by simp[lower]
theorem UD {L:List UInt8} (h:oks true L=false):HV (SL L)=.tuple #[.string (strOf []),.bool false]:=by unfold SL;rw[h];rfl
theorem acI {L:List UInt8} (h:oks true L=true):HV (SL L)=HV (XB (lower L)):=by unfold SL;rw[if_pos h]
theorem adn (s:ByteArray) (w:World) (hs:s.size≤900000) (hT:Tab.Pow w) (hM:Max w):Calls Tryz.prog 289 #[.string s] w fun e w'=>e=.returned (HV (SL s.data.toList))∧Below w.heap.size w w':=by
 have HT:=hid hT
 have HM:=hid hM
 have hl:s.data.toList.length=s.size:=Array.length_toList
 have HL:=hid hl
 obtain⟨H,hH⟩:∃H,H=HV (SL s.data.toList):=⟨_,rfl⟩
 rw[←hH]
 have HH:=hid hH
 have Zh:=hid hs
 clear hT hM hl hH
 go_enter Tryz.func289,Tryz.ntmps289
 go_wp2
 go_loopw [4] (fun vk wr=>∃k:Nat,k≤s.size∧vk=.int .i64 (k:Int)∧wr=w∧Hid (oks true (s.data.toList.take k)=true)) (fun vk _=>s.size - (intOf vk).toNat)
 case atStart=>exact⟨0,Nat.zero_le _,rfl,rfl,rfl⟩
 case round =>
  obtain⟨k,hk,rfl,rfl,HO⟩:=hrel
  by_cases hlt:k<s.size
  ·obtain ⟨c,hc⟩:∃c,s[k]=c:=⟨_,rfl⟩
   have hkl:k<s.data.toList.length:=by rw[HL.out];exact hlt
   have hcl:s.data.toList[k]=c:=hc
   by_cases h126:(126:Int)<(c.toNat:Int)
   ·have HE:Hid (H=.tuple #[.string (strOf []),.bool false]):=by
     show _=_
     rw[HH.out]
     refine UD (GU true _ k hkl ?_)
     rw[hcl,vM,decide_eq_false (by omega),Bool.and_false]
    clear hkl hcl
    go_wp2
    go_ret2
    exact⟨by rw[HE.out];rfl,Below.refl _ _⟩
   cases hf:JU true c with
   |true=>
    have HE:Hid (H=.tuple #[.string (strOf []),.bool false]):=by
     show _=_
     rw[HH.out]
     refine UD (GU true _ k hkl ?_)
     rw[hcl,vM,hf]
     rfl
    have hfc:=fun w=>qV c true w
    rw[hf]at hfc
    have HF:=hid hfc
    clear hkl hcl hf hfc
    go_wp2_with fail
    refine(HF.out _).mono ?_
    rintro e w2 ⟨rfl,rfl⟩
    go_wp2
    go_ret2
    exact⟨by rw[HE.out];rfl,Below.refl _ _⟩
   |false=>
    have HN:Hid (oks true (s.data.toList.take (k+1))=true):=by
     show _=_
     rw[qX true _ k hkl,HO.out,hcl,vM,hf,decide_eq_true (by omega)]
     rfl
    have hfc:=fun w=>qV c true w
    rw[hf]at hfc
    have HF:=hid hfc
    clear hkl hcl hf hfc
    go_wp2_with fail
    refine(HF.out _).mono ?_
    rintro e w2 ⟨rfl,rfl⟩
    go_wp2
    go_roundw
    case rel=>exact⟨k+1,by omega,by go_num,by first|rfl|trivial,HN.out⟩
    case measure=>simp[intOf];omega
  have hO:oks true s.data.toList=true:=by
   have:=HO.out
   rw[List.take_of_length_le (by rw[HL.out];omega)]at this
   exact this
  have hH2:H=HV (XB (lower s.data.toList)):=by rw[HH.out];exact acI hO
  obtain⟨M,hM⟩:∃M:ByteArray,M=strOf (lower s.data.toList):=⟨_,rfl⟩
  have XJ:lower s.data.toList=M.data.toList:=by rw[hM];rfl
  have hMs:M.size≤900000:=by rw[hM,size_strOf,Vz,HL.out];omega
  have Tf:Hid (∀w:World,Calls Tryz.prog 112 #[.string s] w fun e w'=>e=.returned (.string M)∧Below w.heap.size w w'):=by
   show ∀w,_
   rw[hM]
   exact fun w=>cO.gI s w (by unfold maxLen;omega)
  rw[XJ]at hH2
  have hend:=fun w=>acO.aln M w hMs
  clear hM XJ hO HO HH
  cases he:ends M.data.toList with
  |false=>
   rw[he]at hend
   have F6:=hid hend
   by_cases hM0:M.data.toList=[]
   ·have hM1:M=strOf []:=by rw[←aG M,hM0]
    have HE:Hid (H=.tuple #[.string (strOf []),.bool false]):=by show _=_;rw[hH2,hM0];rfl
    have hq:M.toList=[]:=by rw[Lib.toList_data];exact hM0
    have hq2:(M.toList==[])=true:=by rw[hq];rfl
    have HM1:=hid hM1
    clear hend he hM0 hM1 hH2 hq
    go_wp2_with fail
    refine(Tf.out _).mono ?_
    rintro e w2 ⟨rfl,hb2⟩
    have HB2:=hid hb2
    clear hb2
    go_wp2_with fail
    refine(F6.out _).mono ?_
    rintro e w3 ⟨rfl,hb3⟩
    have HB3:=hid (bel HB2.out hb3)
    clear hb3
    go_wp2
    go_ret2
    exact⟨by rw[HE.out,←HM1.out];first|rfl|simp[hq2],HB3.out⟩
   have HE:Hid (H=.tuple #[.string M,.bool true]):=by
    show _=_
    rw[hH2]
    unfold XB
    rw[if_neg hM0,he,if_neg (by simp)]
    show Value.tuple #[.string (strOf M.data.toList),.bool true]=_
    rw[aG]
   have hq:(M.toList==[])=false:=by
    rw[Lib.toList_data,beq_eq_false_iff_ne]
    exact hM0
   have hq2:M.toList.isEmpty=false:=by rw[Lib.toList_data];simpa using hM0
   clear hend he hM0 hH2
   go_wp2_with fail
   refine(Tf.out _).mono ?_
   rintro e w2 ⟨rfl,hb2⟩
   have HB2:=hid hb2
   clear hb2
   go_wp2_with fail
   refine(F6.out _).mono ?_
   rintro e w3 ⟨rfl,hb3⟩
   have HB3:=hid (bel HB2.out hb3)
   clear hb3
   go_wp2
   go_ret2
   exact⟨by rw[HE.out];rfl,HB3.out⟩
  | true=>
   rw[he]at hend
   have F6:=hid hend
   have hM0:M.data.toList≠[]:=by intro h;rw[h]at he;cases he
   have hH3:H=HV ((NR M.data.toList).map Gl.pr):=by rw[hH2];unfold XB;rw[if_neg hM0,he,if_pos rfl]
   have hpa:=fun w hM=>BH.parse_any M w hMs hM
   clear hend he hM0 hH2
   cases hp:NR M.data.toList with
   |none=>
    rw[hp]at hpa hH3
    have HE:Hid (H=.tuple #[.string (strOf []),.bool false]):=by show _=_;rw[hH3];rfl
    have uQ:Hid (BH.oN none=.tuple #[.int .u32 0,.bool false]):=BH.dh _ rfl
    rw[uQ.out]at hpa
    have HP:=hid hpa
    clear hpa hH3 hp
    go_wp2_with fail
    refine(Tf.out _).mono ?_
    rintro e w2 ⟨rfl,hb2⟩
    have HB2:=hid hb2
    clear hb2
    go_wp2_with fail
    refine(F6.out _).mono ?_
    rintro e w3 ⟨rfl,hb3⟩
    have HB3:=hid (bel HB2.out hb3)
    clear hb3
    go_wp2_with fail
    refine(HP.out _ (HM.out.below HB3.out)).mono ?_
    rintro e w4 ⟨rfl,hb4⟩
    have HB4:=hid (bel HB3.out hb4)
    clear hb4
    go_wp2
    go_ret2
    exact⟨by rw[HE.out];rfl,HB4.out⟩
   |some n=>
    have hn:=Ri hp
    rw[hp]at hpa hH3
    obtain⟨R,hR⟩:∃R:ByteArray,R=strOf (Gl.pr n):=⟨_,rfl⟩
    have HE:Hid (H=.tuple #[.string R,.bool true]):=by show _=_;rw[hH3,hR];rfl
    have uQ:Hid (BH.oN (some n)=.tuple #[.int .u32 (n:Int),.bool true]):=BH.yX _ n rfl
    rw[uQ.out]at hpa
    have HP:=hid hpa
    have UA:Hid (∀w,Tab.Pow w→Calls Tryz.prog 327 #[.int .u32 (n:Int)] w fun e w'=>e=.returned (.string R)∧Below w.heap.size w w'):=by
     show ∀w,_
     rw[hR]
     exact fun w hT=>Gl.print_any n hn w hT
    clear hpa hH3 hp hn hR
    go_wp2_with fail
    refine(Tf.out _).mono ?_
    rintro e w2 ⟨rfl,hb2⟩
    have HB2:=hid hb2
    clear hb2
    go_wp2_with fail
    refine(F6.out _).mono ?_
    rintro e w3 ⟨rfl,hb3⟩
    have HB3:=hid (bel HB2.out hb3)
    clear hb3
    go_wp2_with fail
    refine(HP.out _ (HM.out.below HB3.out)).mono ?_
    rintro e w4 ⟨rfl,hb4⟩
    have HB4:=hid (bel HB3.out hb4)
    clear hb4
    go_wp2_with fail
    refine(UA.out _ (bY HT.out HB4.out)).mono ?_
    rintro e w5 ⟨rfl,hb5⟩
    have iG:=hid (bel HB4.out hb5)
    clear hb5
    go_wp2
    go_ret2
    exact⟨by rw[HE.out];rfl,iG.out⟩
theorem aav (L:List UInt8):Lib.hasPrefix L [91]=decide (L.head?=some 91):=by
 cases L with
 |nil=>rfl
 |cons c r=>
  unfold Lib.hasPrefix
  by_cases h:c=91
  ·subst h;simp[List.isPrefixOf]
  have h2:¬(91:UInt8)=c:=fun e=>h e.symm
  simp[List.isPrefixOf,h,h2]
theorem parse_any (s:ByteArray) (sp:Bool) (w:World) (hs:s.size≤900000) (hL:oI w) (hT:Tab.Pow w) (hM:Max w):Calls Tryz.prog 230 #[.string s,.bool sp] w fun e w'=>e=.returned (HV (hst s.data.toList sp))∧Below w.heap.size w w':=by
 have HL:=hid hL
 have HT:=hid hT
 have HM:=hid hM
 have hl:s.data.toList.length=s.size:=Array.length_toList
 have pY:=hid hl
 have hpx:=fun w=>Tryz.strings_HasPrefix s ⟨#[91]⟩ w
 rw[show(⟨#[91]⟩:ByteArray).data.toList=[91]from rfl,aav]at hpx
 obtain⟨H,hH⟩:∃H,H=HV (hst s.data.toList sp):=⟨_,rfl⟩
 rw[←hH]
 have Zh:=hid hs
 clear hL hT hM hl
 by_cases hh:s.data.toList.head?=some 91
 ·have hH2:H=HV (hbr s.data.toList.tail):=by rw[hH];unfold hst;rw[if_pos hh]
  rw[decide_eq_true hh]at hpx
  have HPX:=hid hpx
  have h1:1≤s.size:=by
   rw[←pY.out]
   cases e:s.data.toList with
   |nil=>rw[e]at hh;cases hh
   |cons a r=>simp
  have hX:(s.extract 1 s.size).data.toList=s.data.toList.tail:=by rw[SixE.Ey,List.drop_one]
  obtain⟨X,hXe⟩:∃X,X=s.extract 1 s.size:=⟨_,rfl⟩
  have hXs:X.size≤1048576:=by rw[hXe,ByteArray.size_extract];omega
  rw[←hXe]at hX
  rw[←hX]at hH2
  have HAD:=hid (fun w hL hM=>ZI X w hXs hL hM)
  obtain⟨a,b,hab⟩:∃a b,HV (hbr X.data.toList)=.tuple #[a,b]:=by
   cases hbr X.data.toList with
   |none=>exact⟨_,_,rfl⟩
   |some L=>exact⟨_,_,rfl⟩
  have HAB:=hid hab
  have HE:=hid (hH2.trans hab)
  have h1i:(1:Int)≤(s.size:Int):=by omega
  have HXE:=hid hXe
  clear hpx hh hH hH2 hX hXs hab hs hXe
  go_enter Tryz.func230,Tryz.ntmps230
  go_wp2_with fail
  refine(HPX.out _).mono ?_
  rintro e w2 ⟨rfl,hww⟩
  obtain rfl:w=w2:=hww.symm
  go_wp2_with fail
  rw[←HXE.out]
  refine(HAD.out _ HL.out HM.out).mono ?_
  rintro e w3 ⟨rfl,hb3⟩
  rw[HAB.out]
  have HB3:=hid hb3
  clear hb3
  go_wp2
  go_ret2
  exact⟨by rw[HE.out];rfl,HB3.out⟩
 rw[decide_eq_false hh]at hpx
 have HPX:=hid hpx
 cases sp with
 |true=>
  have hH2:H=HV (SL (fU.dec s.data.toList)):=by rw[hH];unfold hst;rw[if_neg hh,if_pos rfl]
  obtain⟨X,hX⟩:∃X:ByteArray,X=strOf (fU.dec s.data.toList):=⟨_,rfl⟩
  have NQ:X.data.toList=fU.dec s.data.toList:=by rw[hX];rfl
  have hXs:X.size≤900000:=by
   rw[hX,size_strOf]
   have:=fU.ku s.data.toList
   rw[pY.out]at this
   omega
  have Y6:=hid (fun w=>fU.decode_any s w (by omega))
  rw[←NQ]at Y6
  rw[←NQ]at hH2
  have HDO:=hid (fun w hT hM=>adn X w hXs hT hM)
  obtain⟨a,b,hab⟩:∃a b,HV (SL X.data.toList)=.tuple #[a,b]:=by
   cases SL X.data.toList with
   |none=>exact⟨_,_,rfl⟩
   |some L=>exact⟨_,_,rfl⟩
  have HAB:=hid hab
  have HE:=hid (hH2.trans hab)
  clear hpx hh hH hH2 hX NQ hXs hab hs
  go_enter Tryz.func230,Tryz.ntmps230
  go_wp2_with fail
  refine(HPX.out _).mono ?_
  rintro e w2 ⟨rfl,hww⟩
  obtain rfl:w=w2:=hww.symm
  go_wp2_with fail
  refine(Y6.out _).mono ?_
  rintro e w3 ⟨v,rfl,hown,hb3⟩
  obtain⟨A3,c3,rfl,_,_,hrd3⟩:=aJ hown
  have hs3:(convert 45 9 (.slice A3 X.size c3)).run Tryz.prog w3=.ok (.string X) w3:=by
   have h:=aF (P:=Tryz.prog) 45 9 5 Tryz.underlying45 Tryz.underlying5 Tryz.underlying9 _ c3 hrd3
   rw[aG]at h
   exact h
  have HB3:=hid hb3
  clear hb3 hown hrd3
  go_wp2_with fail
  clear hs3
  refine(HDO.out _ (bY HT.out HB3.out) (HM.out.below HB3.out)).mono ?_
  rintro e w4 ⟨rfl,hb4⟩
  rw[HAB.out]
  have HB4:=hid (bel HB3.out hb4)
  clear hb4
  go_wp2
  go_ret2
  exact⟨by rw[HE.out];rfl,HB4.out⟩
 | false=>
  have HH:Hid (H=HV (zA s.data.toList)):=by show _=_;rw[hH];unfold hst;rw[if_neg hh,if_neg (by simp)]
  clear hpx hh hH
  go_enter Tryz.func230,Tryz.ntmps230
  go_wp2_with fail
  refine(HPX.out _).mono ?_
  rintro e w2 ⟨rfl,hww⟩
  obtain rfl:w=w2:=hww.symm
  go_wp2
  go_loopw [6] (fun vk wr=>∃k:Nat,k≤s.size∧vk=.int .i64 (k:Int)∧wr=w∧Hid (oks false (s.data.toList.take k)=true)) (fun vk _=>s.size - (intOf vk).toNat)
  case atStart=>exact⟨0,Nat.zero_le _,rfl,rfl,rfl⟩
  case round =>
   obtain⟨k,hk,rfl,rfl,HO⟩:=hrel
   by_cases hlt:k<s.size
   ·obtain ⟨c,hc⟩:∃c,s[k]=c:=⟨_,rfl⟩
    have hkl:k<s.data.toList.length:=by rw[pY.out];exact hlt
    have hcl:s.data.toList[k]=c:=hc
    cases hf:JU false c with
    |true=>
     have HE:Hid (H=.tuple #[.string (strOf []),.bool false]):=by
      show _=_
      rw[HH.out]
      unfold zA
      rw[GU false _ k hkl (by rw[hcl];unfold okb;rw[hf];rfl)]
      rfl
     have hfc:=fun w=>qV c false w
     rw[hf]at hfc
     have HF:=hid hfc
     clear hkl hcl hf hfc
     go_wp2_with fail
     refine(HF.out _).mono ?_
     rintro e w2 ⟨rfl,rfl⟩
     go_wp2
     go_ret2
     exact⟨by rw[HE.out];rfl,Below.refl _ _⟩
    |false=>
     have HN:Hid (oks false (s.data.toList.take (k+1))=true):=by
      show _=_
      rw[qX false _ k hkl,HO.out,hcl]
      unfold okb
      rw[hf]
      rfl
     have hfc:=fun w=>qV c false w
     rw[hf]at hfc
     have HF:=hid hfc
     clear hkl hcl hf hfc
     go_wp2_with fail
     refine(HF.out _).mono ?_
     rintro e w2 ⟨rfl,rfl⟩
     go_wp2
     go_roundw
     case rel=>exact⟨k+1,by omega,by go_num,by first|rfl|trivial,HN.out⟩
     case measure=>simp[intOf];omega
   have hO:oks false s.data.toList=true:=by
    have:=HO.out
    rw[List.take_of_length_le (by rw[pY.out];omega)]at this
    exact this
   obtain⟨R,hR⟩:∃R:ByteArray,R=strOf (EscE.enc 0 s.data.toList):=⟨_,rfl⟩
   have HE:Hid (H=.tuple #[.string R,.bool true]):=by
    show _=_
    rw[HH.out]
    unfold zA
    rw[if_pos hO,hR]
    rfl
   have HR:=hid hR
   have hcv:=fun(w:World) s=>run_bytes_of_string (P:=Tryz.prog) w 9 45 5 s Tryz.underlying9 Tryz.underlying45 Tryz.underlying5
   clear hO HO HH hR
   go_wp2_with fail
   clear hcv
   refine(EscE.eF 0 _ _ _ s.data.toList _ (fV s _ wr _) (by omega)).mono ?_
   rintro e w3 ⟨rfl,hb3⟩
   rw[←HR.out]
   go_wp2
   go_ret2
   exact⟨by rw[HE.out];rfl,bel (((Below.refl wr.heap.size wr).alloc (Nat.le_refl _) _).drew) hb3⟩
end Go.Proofs.YtmpeaoacaecgpaaGreatDoor.sU
