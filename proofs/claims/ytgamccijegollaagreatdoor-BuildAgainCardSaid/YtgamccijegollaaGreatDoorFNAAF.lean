/- Texts that belong together: asR, aso, acG, WR, acv, ac2, acD, aZ, aco, qh, UtfD, BI. -/
import Derived.Test.YtgamccijegollaaGreatDoorFNAAE
import Derived.Test.YtgamccijegollaaGreatDoorFNAAA
import Derived.Test.YtgamccijegollaaGreatDoorShelf
import Derived.Lib.SliceRun
import Derived.Lib.IndexAny
import Derived.Lib.ItoaNum
import Derived.Deep.QuietTactic
import Derived.BigQuiet
import Derived.Lib.RuneBytes
set_option linter.unusedSimpArgs false
set_option linter.unusedVariables false
set_option maxRecDepth 100000
set_option maxHeartbeats 64000000
namespace Go.Proofs.YtgamccijegollaaGreatDoor.asR
open Go.RowKit Base Dp cO dI acA acL
theorem ext_size (s:ByteArray) (a b:Nat):(s.extract a b).size≤s.size:=by
 rw[ByteArray.size_extract];omega
theorem nS (s:ByteArray) (w:World) (hs:s.size≤1073741824):Calls Tryz.prog 320 #[.string s] w fun e w'=>e=.returned (.bool (Bo s.data.toList))∧Below w.heap.size w w':=by
 have hl:s.data.toList.length=s.size:=Array.length_toList
 obtain⟨o,ho⟩:∃o,o=Bo s.data.toList:=⟨_,rfl⟩
 rw[←ho]
 obtain⟨P,hP⟩:∃P,P=Lib.hasPrefix s.data.toList [46]:=⟨_,rfl⟩
 have HP:=hid hP
 cases P with
 | true=>
  obtain⟨t,ht⟩:∃t,s.data.toList=46::t:=by
   unfold Lib.hasPrefix at hP
   match h:s.data.toList,hP with
   |c::t,hP=>
    simp at hP
    exact⟨t,by rw[hP]⟩
  have h1:1≤s.size:=by rw[←hl,ht];simp
  obtain⟨X,hX⟩:∃X,X=s.extract 1 s.size:=⟨_,rfl⟩
  have hx:s.extract 1 s.size=X:=hX.symm
  have NQ:X.data.toList=t:=by rw[hX,L6.ext_drop s 1 s.size rfl,ht];rfl
  have hXs:X.size≤maxLen:=by rw[hX];have:=ext_size s 1 s.size;unfold maxLen;omega
  have HE:Hid (o=xW X.data.toList):=by show _=_;rw[ho,ht,dbl_dot,NQ]
  have HXS:=hid hXs
  clear hP ht hX NQ ho hl hXs
  go_enter Tryz.func320,Tryz.ntmps320
  go_wp2_with fail
  refine(Tryz.strings_HasPrefix s ⟨#[46]⟩ _).mono ?_
  rintro e w2 ⟨rfl,rfl⟩
  rw[←HP.out]
  go_wp2_with fail
  refine(kE X _ HXS.out).mono ?_
  rintro e w3 ⟨rfl,hb3⟩
  rw[←HE.out]
  go_wp2
  go_ret
  exact⟨rfl,hb3⟩
 | false=>
  by_cases h4:3<s.size
  ·obtain ⟨X,hX⟩:∃X,X=s.extract 0 3:=⟨_,rfl⟩
   obtain⟨Y,hY⟩:∃Y,Y=s.extract 3 s.size:=⟨_,rfl⟩
   have hx:s.extract 0 3=X:=hX.symm
   have hy:s.extract 3 s.size=Y:=hY.symm
   have HXS:Hid (X.size≤maxLen):=by show _≤_;rw[hX];have:=ext_size s 0 3;unfold maxLen;omega
   have HYS:Hid (Y.size≤maxLen):=by show _≤_;rw[hY];have:=ext_size s 3 s.size;unfold maxLen;omega
   obtain⟨p,hp⟩:∃p,p=xW X.data.toList:=⟨_,rfl⟩
   obtain⟨q,hq⟩:∃q,q=xW Y.data.toList:=⟨_,rfl⟩
   have HE:Hid (o=(p&&q)):=by
    show _=_
    rw[ho,hp,hq,hX,hY,L6.ext_take,L6.ext_drop s 3 s.size rfl]
    show Bo s.data.toList=(xW (s.data.toList.take 3)&&xW (s.data.toList.drop 3))
    match h:s.data.toList,hP with
    |[],_=>rw[h]at hl;simp at hl;omega
    |c::t,hP=>
     have hc:c≠46:=by
      rintro rfl
      simp[Lib.hasPrefix]at hP
     rw[U3 c t hc,decide_eq_true (by rw[←h,hl];exact h4),Bool.true_and]
   have HPP:=hid hp
   have HQQ:=hid hq
   have h4':(3:Int)<(s.size:Int):=by omega
   clear hP hX hY ho hl hp hq
   cases p with
   |true=>
    go_enter Tryz.func320,Tryz.ntmps320
    go_wp2_with fail
    refine(Tryz.strings_HasPrefix s ⟨#[46]⟩ _).mono ?_
    rintro e w2 ⟨rfl,rfl⟩
    rw[←HP.out]
    go_wp2_with fail
    refine(kE X _ HXS.out).mono ?_
    rintro e w3 ⟨rfl,hb3⟩
    rw[←HPP.out]
    go_wp2_with fail
    refine(kE Y _ HYS.out).mono ?_
    rintro e w4 ⟨rfl,hb4⟩
    rw[←HQQ.out]
    have HF:Hid (o=q):=by show _=_;rw[HE.out,Bool.true_and]
    go_wp2
    go_ret
    exact⟨ak HF.out.symm,bel hb3 hb4⟩
   |false=>
    have HF:Hid (o=false):=by show _=_;rw[HE.out,Bool.false_and]
    go_enter Tryz.func320,Tryz.ntmps320
    go_wp2_with fail
    refine(Tryz.strings_HasPrefix s ⟨#[46]⟩ _).mono ?_
    rintro e w2 ⟨rfl,rfl⟩
    rw[←HP.out]
    go_wp2_with fail
    refine(kE X _ HXS.out).mono ?_
    rintro e w3 ⟨rfl,hb3⟩
    rw[←HPP.out]
    go_wp2
    go_ret
    exact⟨ak HF.out.symm,hb3⟩
  have HF:Hid (o=false):=by
   show _=_
   rw[ho]
   match h:s.data.toList,hP with
   |[],_=>rfl
   |c::t,hP=>
    have hc:c≠46:=by
     rintro rfl
     simp[Lib.hasPrefix]at hP
    rw[U3 c t hc,decide_eq_false (by rw[←h,hl];exact h4),Bool.false_and]
  have h4':¬(3:Int)<(s.size:Int):=by omega
  clear hP ho hl
  go_enter Tryz.func320,Tryz.ntmps320
  go_wp2_with fail
  refine(Tryz.strings_HasPrefix s ⟨#[46]⟩ _).mono ?_
  rintro e w2 ⟨rfl,rfl⟩
  rw[←HP.out]
  go_wp2
  go_ret
  exact⟨ak HF.out.symm,Below.refl _ _⟩
end Go.Proofs.YtgamccijegollaaGreatDoor.asR
namespace Go.Proofs.YtgamccijegollaaGreatDoor.aso
open Go.RowKit Base Dp cO dI acA acL Kr
def inq (c:UInt8):Bool:=decide (c=47)||decide (c=92)||decide (c=63)||decide (c=35)
theorem ahL (c:UInt8):0≤Lib.indexByte [47,92,63,35] (c.toNat:Int).toNat.toUInt8↔inq c=true:=by
 have H:∀n:Fin 256,0≤Lib.indexByte [47,92,63,35] ((n.val:Nat):Int).toNat.toUInt8↔inq (UInt8.ofNat n.val)=true:=by decide+kernel
 have:=H ⟨c.toNat,c.toNat_lt⟩
 simpa using this
theorem UQ (L:List UInt8) (h:L.length<2):JR L=false:=by
 match L,h with
 |[],_=>rfl
 |[_],_=>rfl
theorem ae8 (L:List UInt8) (h:L.length=2):JR L=drv (L.take 2):=by
 match L,h with
 |[_,_],_=>rfl
theorem ZR (s:ByteArray) (h:2<s.size):JR s.data.toList=(drv (s.data.toList.take 2)&&inq (s[2])):=by
 have hl:s.data.toList.length=s.size:=Array.length_toList
 have h2:s.data.toList[2]'(by rw[hl];exact h)=s[2]:=rfl
 rw[←h2]
 generalize s.data.toList=L at hl
 match L,hl with
 |[],hl=>simp at hl;omega
 |[_],hl=>simp at hl;omega
 |[_,_],hl=>simp at hl;omega
 |a::b::c::t,_=>rfl
theorem PK (s:ByteArray) (w:World) (hs:s.size≤1073741824):Calls Tryz.prog 217 #[.string s] w fun e w'=>e=.returned (.bool (JR s.data.toList))∧w=w':=by
 have hl:s.data.toList.length=s.size:=Array.length_toList
 obtain⟨o,ho⟩:∃o,o=JR s.data.toList:=⟨_,rfl⟩
 rw[←ho]
 by_cases h2:s.size<2
 ·have HE:Hid (o=false):=by show _=_;rw[ho];exact UQ _ (by rw[hl];exact h2)
  have q1:(s.size:Int)<2:=by omega
  clear ho hl h2
  go_enter Tryz.func217,Tryz.ntmps217
  go_wp2
  go_ret
  exact⟨ak HE.out.symm,rfl⟩
 have q1:¬(s.size:Int)<2:=by omega
 have q2:2≤s.size:=by omega
 obtain⟨X,hX⟩:∃X,X=s.extract 0 2:=⟨_,rfl⟩
 have hx:s.extract 0 2=X:=hX.symm
 have NQ:X.data.toList=s.data.toList.take 2:=by rw[hX,L6.ext_take];rfl
 obtain⟨d,hd⟩:∃d,d=drv X.data.toList:=⟨_,rfl⟩
 have HD:=hid hd
 by_cases h22:s.size=2
 ·have HE:Hid (o=d):=by show _=_;rw[ho,hd,NQ];exact ae8 _ (by rw[hl];exact h22)
  have q3:((s.size:Int)==2)=true:=by simp;omega
  clear ho hl h2 hX NQ hd h22
  cases d
  all_goals
   go_enter Tryz.func217,Tryz.ntmps217
   go_wp2_with fail
   refine(kL _ _).mono ?_
   rintro e w2 ⟨rfl,rfl⟩
   rw[←HD.out]
   go_wp2
   go_ret
   exact⟨ak HE.out.symm,rfl⟩
 have q3:((s.size:Int)==2)=false:=by simp;omega
 have h3:2<s.size:=by omega
 obtain⟨c,hc⟩:∃c,s[2]=c:=⟨_,rfl⟩
 obtain⟨i,hi⟩:∃i,i=inq c:=⟨_,rfl⟩
 have HE:Hid (o=(d&&i)):=by show _=_;rw[ho,hd,NQ,hi,←hc];exact ZR s h3
 have HI:=hid hi
 clear ho hl h2 hX NQ hd h22
 cases d with
 |false=>
  have HF:Hid (o=false):=by show _=_;rw[HE.out,Bool.false_and]
  clear hi
  go_enter Tryz.func217,Tryz.ntmps217
  go_wp2_with fail
  refine(kL _ _).mono ?_
  rintro e w2 ⟨rfl,rfl⟩
  rw[←HD.out]
  go_wp2
  go_ret
  exact⟨ak HF.out.symm,rfl⟩
 | true=>
  have HF:Hid (o=i):=by show _=_;rw[HE.out,Bool.true_and]
  obtain⟨z,hz⟩:∃z,z=Lib.indexByte [47,92,63,35] (c.toNat:Int).toNat.toUInt8:=⟨_,rfl⟩
  have hzi:(0≤z)↔i=true:=by rw[hz,hi];exact ahL c
  have HZ:=hid hz
  clear hi hz
  cases i with
  |true=>
   have q4:=hzi.2 rfl
   clear hzi
   go_enter Tryz.func217,Tryz.ntmps217
   go_wp2_with fail
   refine(kL _ _).mono ?_
   rintro e w2 ⟨rfl,rfl⟩
   rw[←HD.out]
   go_wp2_with fail
   refine(Tryz.strings_IndexByte ⟨#[47,92,63,35]⟩ _ _).mono ?_
   rintro e w3 ⟨rfl,rfl⟩
   rw[show(⟨#[47,92,63,35]⟩:ByteArray).data.toList=[47,92,63,35]from rfl,←HZ.out]
   go_wp2
   go_ret
   exact⟨ak HF.out.symm,rfl⟩
  |false=>
   have q4:z<0:=by
    rcases Int.lt_or_le z 0 with h|h
    ·exact h
    exact absurd (hzi.1 h) (by decide)
   have q5:¬0≤z:=by omega
   clear hzi
   go_enter Tryz.func217,Tryz.ntmps217
   go_wp2_with fail
   refine(kL _ _).mono ?_
   rintro e w2 ⟨rfl,rfl⟩
   rw[←HD.out]
   go_wp2_with fail
   refine(Tryz.strings_IndexByte ⟨#[47,92,63,35]⟩ _ _).mono ?_
   rintro e w3 ⟨rfl,rfl⟩
   rw[show(⟨#[47,92,63,35]⟩:ByteArray).data.toList=[47,92,63,35]from rfl,←HZ.out]
   go_wp2
   go_ret
   exact⟨ak ((decide_eq_false (by omega)).trans HF.out.symm),rfl⟩
end Go.Proofs.YtgamccijegollaaGreatDoor.aso
namespace Go.Proofs.YtgamccijegollaaGreatDoor.acG
open Go.RowKit Base Dp acA acL Kr
def keep (file:Bool):List ByteArray→Bool
 |[]=>true
 |[x]=>file&&nrm x.data.toList
 |_=>false
def mM (file:Bool) (l:List ByteArray):List ByteArray:=if keep file l then l else l.take (l.length - 1)
theorem GN (file:Bool) (l:List ByteArray):(mM file l).length=if keep file l then l.length else l.length - 1:=by
 unfold mM
 split
 ·rfl
 rw[List.length_take];omega
theorem xQ (file:Bool) (A:Option Addr) (n cap:Nat) (l:List ByteArray) (w:World) (hR:aY w A n (l.map Value.string)) (hnc:n≤cap) (hcm:cap≤maxLen):
  Calls Tryz.prog 278 #[.bool file,.slice A n cap] w fun e w'=>e=.returned (.slice A (if keep file l then n else n - 1) cap)∧w=w':=by
 unfold maxLen at hcm
 have hn:l.length=n:=by rw[←hR.1,List.length_map]
 obtain⟨m,hm⟩:∃m,m=if keep file l then n else n - 1:=⟨_,rfl⟩
 rw[←hm]
 match l,hn with
 |[],hn=>
  obtain rfl:n=0:=by simpa using hn.symm
  obtain rfl:m=0:=by rw[hm];rfl
  clear hm hn hR
  go_enter Tryz.func278,Tryz.ntmps278
  go_wp2
  go_ret
  exact⟨rfl,rfl⟩
 | [x],hn=>
  obtain rfl:n=1:=by simpa using hn.symm
  obtain⟨g,off,rfl,hg,hcell⟩:=hR.spot (by omega)
  have hc:=hcell 0 (by simp)
  rw[Nat.add_zero]at hc
  replace hc:w.cell? ⟨g,off,none⟩=some (.string x):=hc
  cases file with
  |false=>
   obtain rfl:m=0:=by rw[hm];rfl
   clear hm hn hR hcell
   go_enter Tryz.func278,Tryz.ntmps278
   go_wp2
   go_ret
   exact⟨rfl,rfl⟩
  |true=>
   obtain⟨b,hb⟩:∃b,b=nrm x.data.toList:=⟨_,rfl⟩
   have HM:Hid (m=if b then 1 else 0):=by
    show _=_
    rw[hm,hb]
    simp[keep]
   have HB:=hid hb
   clear hm hn hR hcell hb
   cases b with
   |true=>
    obtain rfl:m=1:=HM.out
    go_enter Tryz.func278,Tryz.ntmps278
    go_wp2_with fail
    refine(Ah x _).mono ?_
    rintro e w2 ⟨rfl,rfl⟩
    rw[←HB.out]
    go_wp2
    go_ret
    exact⟨rfl,rfl⟩
   |false=>
    obtain rfl:m=0:=HM.out
    go_enter Tryz.func278,Tryz.ntmps278
    go_wp2_with fail
    refine(Ah x _).mono ?_
    rintro e w2 ⟨rfl,rfl⟩
    rw[←HB.out]
    go_wp2
    go_ret
    exact⟨rfl,rfl⟩
 |x::y::r,hn=>
  have h2:2≤n:=by rw[←hn];simp
  have HM:Hid (m=n - 1):=by show _=_;rw[hm];rfl
  have q1:((n:Int)==0)=false:=by simp;omega
  have q2:((n:Int)==1)=false:=by simp;omega
  obtain⟨g,off,rfl,hg,hcell⟩:=hR.spot (by omega)
  have q3:((n:Int) - 1).toNat=m:=by have:=HM.out;omega
  clear hm hn hR hcell
  cases file
  all_goals
   go_enter Tryz.func278,Tryz.ntmps278
   go_wp2
   go_ret
   exact⟨by first|rfl|simp[q3],rfl⟩
end Go.Proofs.YtgamccijegollaaGreatDoor.acG
namespace Go.Proofs.YtgamccijegollaaGreatDoor.WR
open Go.RowKit Base Dp acA acL Kr
def wr (first:Bool) (L:List UInt8):List UInt8:=if first&&drv L then L.take 1++[58]else FM.enc 4 L
theorem sN (first:Bool) (s:ByteArray) (w:World) (hs:s.size≤1073741824):
  Calls Tryz.prog 322 #[.bool first,.string s] w fun e w'=>e=.returned (.string (strOf (wr first s.data.toList)))∧Below w.heap.size w w':=by
 obtain⟨d,hd⟩:∃d,d=drv s.data.toList:=⟨_,rfl⟩
 obtain⟨R,hR⟩:∃R,R=wr first s.data.toList:=⟨_,rfl⟩
 rw[←hR]
 have HD:=hid hd
 cases first with
 | true=>
  cases d with
  |true=>
   have h2:s.size=2:=by
    have:=Iz _ hd.symm
    rw[show s.data.toList.length=s.size from Array.length_toList]at this
    exact this
   obtain⟨X,hX⟩:∃X,X=s.extract 0 1:=⟨_,rfl⟩
   have hx:s.extract 0 1=X:=hX.symm
   have NQ:X=strOf (s.data.toList.take 1):=by rw[hX,L6.ext_take]
   have hRR:R=s.data.toList.take 1++[58]:=by rw[hR];unfold wr;rw[←hd];rfl
   have a1:∀w:World,(Op.stringOp .add X ⟨#[58]⟩).run Tryz.prog w=.ok (.string (strOf R)) w:=fun w=>by
    rw[NQ,hRR]
    exact dL _ ⟨#[58]⟩ w (by rw[o9,List.length_take];show _+1≤_;omega)
   have q1:(1:Int)≤(s.size:Int):=by omega
   have q2:1≤s.size:=by omega
   clear hd hR hX NQ hRR h2
   go_enter Tryz.func322,Tryz.ntmps322
   go_wp2_with fail
   refine(kL s _).mono ?_
   rintro e w2 ⟨rfl,rfl⟩
   rw[←HD.out]
   go_wp2
   go_ret
   exact⟨rfl,Below.refl _ _⟩
  |false=>
   have HRR:Hid (R=FM.enc 4 s.data.toList):=by show _=_;rw[hR];unfold wr;rw[←hd];rfl
   have hcv:=fun(w:World) s=>run_bytes_of_string (P:=Tryz.prog) w 9 45 5 s Tryz.underlying9 Tryz.underlying45 Tryz.underlying5
   clear hd hR
   go_enter Tryz.func322,Tryz.ntmps322
   go_wp2_with fail
   refine(kL s _).mono ?_
   rintro e w2 ⟨rfl,rfl⟩
   rw[←HD.out]
   go_wp2_with fail
   clear hcv
   refine(FM.eF 4 _ _ _ s.data.toList _ (fV s _ w _) hs).mono ?_
   rintro e w3 ⟨rfl,hb3⟩
   rw[←HRR.out]
   go_wp2
   go_ret
   exact⟨rfl,bel (((Below.refl w.heap.size w).alloc (Nat.le_refl _) _).drew) hb3⟩
 |false=>
  have HRR:Hid (R=FM.enc 4 s.data.toList):=by show _=_;rw[hR];rfl
  have hcv:=fun(w:World) s=>run_bytes_of_string (P:=Tryz.prog) w 9 45 5 s Tryz.underlying9 Tryz.underlying45 Tryz.underlying5
  clear hd hR
  go_enter Tryz.func322,Tryz.ntmps322
  go_wp2_with fail
  clear hcv
  refine(FM.eF 4 _ _ _ s.data.toList _ (fV s _ w _) hs).mono ?_
  rintro e w3 ⟨rfl,hb3⟩
  rw[←HRR.out]
  go_wp2
  go_ret
  exact⟨rfl,bel (((Below.refl w.heap.size w).alloc (Nat.le_refl _) _).drew) hb3⟩
end Go.Proofs.YtgamccijegollaaGreatDoor.WR
namespace Go.Proofs.YtgamccijegollaaGreatDoor.acv
open Go.RowKit Base Dp acA acL Kr asR acG WR
theorem pq:(Tryz.prog.info? 9).map (fun i=>(i.zero,i.size,i.bytes))=some (some (.string ByteArray.empty),1,16):=by kernel_rfl
theorem ah1 {w:World} {B:Nat} {e:TypeId} {A:Option Addr} {n cap:Nat} {xs:List Value} (h:w.ownsRow B e 1 (.slice A n cap) n xs) (m:Nat) (hm:m≤n):w.ownsRow B e 1 (.slice A m cap) m (xs.take m):=by
 obtain⟨hl,h⟩:=h
 rw[Nat.mul_one]at hl
 refine⟨by rw[List.length_take];omega,?_⟩
 rcases h with⟨hv,h0⟩|⟨g,cap',cur,hv,hb,hh,hc,hmm,hs,ht⟩
 ·injection hv with h1 h2 h3
  obtain rfl:m=0:=by omega
  exact .inl ⟨by rw[h1,h3],rfl⟩
 injection hv with h1 h2 h3
 subst h3
 refine .inr ⟨g,cap,cur,by rw[h1],hb,hh,by omega,hmm,hs,?_⟩
 rw[Nat.mul_one]at ht⊢
 rw[←ht,List.take_take,Nat.min_eq_left hm]
def Hu (file last:Bool) (l:List ByteArray) (L:List UInt8):List ByteArray:=
 if Bo L then(if last then mM file l++[strOf []]else mM file l)else if xW L then(if last then l++[strOf []]else l)else l++[strOf (wr (file&&l.isEmpty) L)]
def lu (B:Nat) (w:World) (l:List ByteArray) (e:Ending) (w':World):Prop:=∃v,e=.returned v∧w'.ownsRow B 9 1 v l.length (l.map Value.string)∧Below B w w'
theorem abK (file last:Bool) (B:Nat) (v:Value) (l:List ByteArray) (s:ByteArray) (w:World) (hown:w.ownsRow B 9 1 v l.length (l.map Value.string)) (hB:B≤w.heap.size) (hl:l.length≤1000000) (hs:s.size≤1073741824):
  Calls Tryz.prog 300 #[.bool file,.bool last,v,.string s] w (lu B w (Hu file last l s.data.toList)):=by
 obtain⟨i0,hi,hz0,hz1,hz2⟩:=info_parts pq
 obtain⟨A,cap,rfl,hnc,hcm,hR⟩:=aJ hown
 obtain⟨n,hn⟩:∃n,n=l.length:=⟨_,rfl⟩
 rw[←hn]at hown hl hnc hR⊢
 obtain⟨S,hS⟩:∃S,S=Hu file last l s.data.toList:=⟨_,rfl⟩
 rw[←hS]
 have HN:=hid hn
 obtain⟨d,hd⟩:∃d,d=Bo s.data.toList:=⟨_,rfl⟩
 have HD:=hid hd
 cases d with
 |true=>
  obtain⟨m,hm⟩:∃m,m=if keep file l then n else n - 1:=⟨_,rfl⟩
  have hmn:m≤n:=by rw[hm];split<;>omega
  have aaz:mM file l=l.take m:=by
   unfold mM
   rw[hm]
   split
   ·rw[List.take_of_length_le (by omega)]
   ·rw[hn]
  have hlt:(l.take m).length=m:=by rw[List.length_take];omega
  have hown2:=ah1 hown m hmn
  rw[←List.map_take]at hown2
  have HOWN2:=hid hown2
  have HR:=hid hR
  have HM:=hid hm
  have sQ:=hid hlt
  have HSH:=hid aaz
  cases last with
  |false=>
   have F9:Hid (S=l.take m):=by show _=_;rw[hS];unfold Hu;rw[←hd,if_pos rfl,if_neg (by decide),aaz]
   clear hown hown2 hR hm aaz hS hd hn hlt
   go_enter Tryz.func300,Tryz.ntmps300
   go_wp2_with fail
   refine(nS s _ hs).mono ?_
   rintro e w2 ⟨rfl,hb2⟩
   rw[←HD.out]
   go_wp2_with fail
   refine(xQ file A n cap l _ (HR.out.below hb2) hnc hcm).mono ?_
   rintro e w3 ⟨rfl,rfl⟩
   rw[←HM.out]
   have HX:Hid (lu B w S (.returned (.slice A m cap)) w2):=⟨_,rfl,by rw[F9.out,sQ.out];exact aP HOWN2.out hb2,hb2.mono hB⟩
   go_wp2
   go_ret
   exact HX
  |true=>
   have F9:Hid (S=l.take m++[strOf []]):=by show _=_;rw[hS];unfold Hu;rw[←hd,if_pos rfl,if_pos rfl,aaz]
   clear hown hown2 hR hm aaz hS hd hn hlt
   go_enter Tryz.func300,Tryz.ntmps300
   go_wp2_with fail
   refine(nS s _ hs).mono ?_
   rintro e w2 ⟨rfl,hb2⟩
   rw[←HD.out]
   go_wp2_with fail
   refine(xQ file A n cap l _ (HR.out.below hb2) hnc hcm).mono ?_
   rintro e w3 ⟨rfl,rfl⟩
   rw[←HM.out]
   have hown3:=aP HOWN2.out hb2
   have hbel:Below B w w2:=hb2.mono hB
   have hB2:B≤w2.heap.size:=Nat.le_trans hB hb2.size
   go_wp2_with (at_builtin;refine aQ rfl _ _ 23 rfl B 9 i0 (.string ByteArray.empty) 16 Tryz.underlying23 hi hz0 hz1 hz2 rfl _ m _ rfl hown3 hbel hB2 [.string (strOf [])] 1 rfl rfl (by intro u hu;simp at hu;subst hu;rfl) (by unfold maxLen;omega) (by omega) ?_)
   intro v4 w4 hown4 rQ
   have HX:Hid (lu B w S (.returned v4) w4):=⟨_,rfl,by rw[F9.out,List.length_append,List.map_append,sQ.out,List.map_take];exact hown4,rQ⟩
   clear hown3 hown4 hbel
   go_wp2
   go_ret
   exact HX
 | false=>
  obtain⟨g,hg⟩:∃g,g=xW s.data.toList:=⟨_,rfl⟩
  have HG:=hid hg
  have hsm:s.size≤maxLen:=by unfold maxLen;omega
  have JO:=hid hsm
  have HOWN:=hid hown
  cases g with
  |true=>
   cases last with
   |false=>
    have F9:Hid (S=l):=by show _=_;rw[hS];unfold Hu;rw[←hd,if_neg (by decide),←hg,if_pos rfl,if_neg (by decide)]
    clear hown hR hS hd hg hn hsm
    go_enter Tryz.func300,Tryz.ntmps300
    go_wp2_with fail
    refine(nS s _ hs).mono ?_
    rintro e w2 ⟨rfl,hb2⟩
    rw[←HD.out]
    go_wp2_with fail
    refine(kE s _ JO.out).mono ?_
    rintro e w3 ⟨rfl,hb3⟩
    rw[←HG.out]
    have HX:Hid (lu B w S (.returned (.slice A n cap)) w3):=⟨_,rfl,by rw[F9.out,←HN.out];exact aP (aP HOWN.out hb2) hb3,(bel hb2 hb3).mono hB⟩
    go_wp2
    go_ret
    exact HX
   |true=>
    have F9:Hid (S=l++[strOf []]):=by show _=_;rw[hS];unfold Hu;rw[←hd,if_neg (by decide),←hg,if_pos rfl,if_pos rfl]
    clear hown hR hS hd hg hn hsm
    go_enter Tryz.func300,Tryz.ntmps300
    go_wp2_with fail
    refine(nS s _ hs).mono ?_
    rintro e w2 ⟨rfl,hb2⟩
    rw[←HD.out]
    go_wp2_with fail
    refine(kE s _ JO.out).mono ?_
    rintro e w3 ⟨rfl,hb3⟩
    rw[←HG.out]
    have hown3:=aP (aP HOWN.out hb2) hb3
    have hbel:Below B w w3:=(bel hb2 hb3).mono hB
    have hB2:B≤w3.heap.size:=Nat.le_trans hB (Nat.le_trans hb2.size hb3.size)
    go_wp2_with (at_builtin;refine aQ rfl _ _ 23 rfl B 9 i0 (.string ByteArray.empty) 16 Tryz.underlying23 hi hz0 hz1 hz2 rfl _ n _ rfl hown3 hbel hB2 [.string (strOf [])] 1 rfl rfl (by intro u hu;simp at hu;subst hu;rfl) (by unfold maxLen;omega) (by omega) ?_)
    intro v4 w4 hown4 rQ
    have HX:Hid (lu B w S (.returned v4) w4):=⟨_,rfl,by rw[F9.out,List.length_append,List.map_append,←HN.out];exact hown4,rQ⟩
    clear hown3 hown4 hbel
    go_wp2
    go_ret
    exact HX
  | false=>
   obtain⟨f,hf⟩:∃f,f=(file&&l.isEmpty):=⟨_,rfl⟩
   obtain⟨R,hR2⟩:∃R,R=strOf (wr f s.data.toList):=⟨_,rfl⟩
   have F9:Hid (S=l++[R]):=by show _=_;rw[hS];unfold Hu;rw[←hd,if_neg (by decide),←hg,if_neg (by decide),←hf,hR2]
   have HR2:=hid hR2
   have hcase:(file=false∧f=false)∨(file=true∧n=0∧f=true)∨(file=true∧n≠0∧f=false):=by
    cases file with
    |false=>exact .inl ⟨rfl,by rw[hf];rfl⟩
    |true=>
     match l,hn with
     |[],hn=>exact .inr (.inl ⟨rfl,by simpa using hn,by rw[hf];rfl⟩)
     |_::_,hn=>exact .inr (.inr ⟨rfl,by simp at hn;omega,by rw[hf];rfl⟩)
   clear hown hR hS hd hg hn hsm hf hR2
   rcases hcase with⟨rfl,rfl⟩|⟨rfl,h0,rfl⟩|⟨rfl,h0,rfl⟩
   ·go_enter Tryz.func300,Tryz.ntmps300
    go_wp2_with fail
    refine(nS s _ hs).mono ?_
    rintro e w2 ⟨rfl,hb2⟩
    rw[←HD.out]
    go_wp2_with fail
    refine(kE s _ JO.out).mono ?_
    rintro e w3 ⟨rfl,hb3⟩
    rw[←HG.out]
    go_wp2_with fail
    refine(sN _ s _ hs).mono ?_
    rintro e w5 ⟨rfl,hb5⟩
    rw[←HR2.out]
    have hown3:=aP (aP (aP HOWN.out hb2) hb3) hb5
    have hbel:Below B w w5:=(bel (bel hb2 hb3) hb5).mono hB
    have hB2:B≤w5.heap.size:=Nat.le_trans hB (Nat.le_trans hb2.size (Nat.le_trans hb3.size hb5.size))
    go_wp2_with (at_builtin;refine aQ rfl _ _ 23 rfl B 9 i0 (.string ByteArray.empty) 16 Tryz.underlying23 hi hz0 hz1 hz2 rfl _ n _ rfl hown3 hbel hB2 [.string R] 1 rfl rfl (by intro u hu;simp at hu;subst hu;rfl) (by unfold maxLen;omega) (by omega) ?_)
    intro v4 w4 hown4 rQ
    have HX:Hid (lu B w S (.returned v4) w4):=⟨_,rfl,by rw[F9.out,List.length_append,List.map_append,←HN.out];exact hown4,rQ⟩
    clear hown3 hown4 hbel
    go_wp2
    go_ret
    exact HX
   ·have q0:((n:Int)==0)=true:=by simp;omega
    have Uz:=hid h0
    clear h0
    go_enter Tryz.func300,Tryz.ntmps300
    go_wp2_with fail
    refine(nS s _ hs).mono ?_
    rintro e w2 ⟨rfl,hb2⟩
    rw[←HD.out]
    go_wp2_with fail
    refine(kE s _ JO.out).mono ?_
    rintro e w3 ⟨rfl,hb3⟩
    rw[←HG.out]
    go_wp2_with fail
    refine(sN _ s _ hs).mono ?_
    rintro e w5 ⟨rfl,hb5⟩
    rw[←HR2.out]
    have hown3:=aP (aP (aP HOWN.out hb2) hb3) hb5
    have hbel:Below B w w5:=(bel (bel hb2 hb3) hb5).mono hB
    have hB2:B≤w5.heap.size:=Nat.le_trans hB (Nat.le_trans hb2.size (Nat.le_trans hb3.size hb5.size))
    go_wp2_with (at_builtin;refine aQ rfl _ _ 23 rfl B 9 i0 (.string ByteArray.empty) 16 Tryz.underlying23 hi hz0 hz1 hz2 rfl _ n _ rfl hown3 hbel hB2 [.string R] 1 rfl rfl (by intro u hu;simp at hu;subst hu;rfl) (by unfold maxLen;omega) (by omega) ?_)
    intro v4 w4 hown4 rQ
    have HX:Hid (lu B w S (.returned v4) w4):=⟨_,rfl,by rw[F9.out,List.length_append,List.map_append,←HN.out];exact hown4,rQ⟩
    clear hown3 hown4 hbel
    go_wp2
    go_ret
    exact HX
   ·have q0:((n:Int)==0)=false:=by simp;omega
    clear h0
    go_enter Tryz.func300,Tryz.ntmps300
    go_wp2_with fail
    refine(nS s _ hs).mono ?_
    rintro e w2 ⟨rfl,hb2⟩
    rw[←HD.out]
    go_wp2_with fail
    refine(kE s _ JO.out).mono ?_
    rintro e w3 ⟨rfl,hb3⟩
    rw[←HG.out]
    go_wp2_with fail
    refine(sN _ s _ hs).mono ?_
    rintro e w5 ⟨rfl,hb5⟩
    rw[←HR2.out]
    have hown3:=aP (aP (aP HOWN.out hb2) hb3) hb5
    have hbel:Below B w w5:=(bel (bel hb2 hb3) hb5).mono hB
    have hB2:B≤w5.heap.size:=Nat.le_trans hB (Nat.le_trans hb2.size (Nat.le_trans hb3.size hb5.size))
    go_wp2_with (at_builtin;refine aQ rfl _ _ 23 rfl B 9 i0 (.string ByteArray.empty) 16 Tryz.underlying23 hi hz0 hz1 hz2 rfl _ n _ rfl hown3 hbel hB2 [.string R] 1 rfl rfl (by intro u hu;simp at hu;subst hu;rfl) (by unfold maxLen;omega) (by omega) ?_)
    intro v4 w4 hown4 rQ
    have HX:Hid (lu B w S (.returned v4) w4):=⟨_,rfl,by rw[F9.out,List.length_append,List.map_append,←HN.out];exact hown4,rQ⟩
    clear hown3 hown4 hbel
    go_wp2
    go_ret
    exact HX
end Go.Proofs.YtgamccijegollaaGreatDoor.acv
namespace Go.Proofs.YtgamccijegollaaGreatDoor.ac2
open Go.RowKit Base Dp acj acG acv
theorem JE (l:List ByteArray):∀u ∈ l.map Value.string,u.oneCell'=true:=by
 intro u hu
 simp only[List.mem_map]at hu
 obtain⟨s,_,rfl⟩:=hu
 rfl
theorem zS (A:Option Addr) (n cap:Nat) (l:List ByteArray) (w:World) (h:aY w A n (l.map Value.string)) (hm:n≤1000000):
  Calls Tryz.prog 229 #[.slice A n cap] w (lu w.heap.size w l):=by
 have hl:l.length=n:=by rw[←h.1,List.length_map]
 have HH:=hid h
 clear h
 obtain⟨i0,hi,hz0,hz1,hz2⟩:=info_parts pq
 have hnil:=fun(W:World)=>Lib.run_eql_slice_nil (P:=Tryz.prog) W 23 9 A n cap 0 0 Tryz.underlying23
 cases A with
 | none=>
  have h0:n=0:=by
   rcases Nat.eq_zero_or_pos n with h0|h0
   ·exact h0
   ·obtain⟨_,_,e,_⟩:=HH.out.spot h0
    cases e
  subst h0
  obtain rfl:l=[]:=List.eq_nil_of_length_eq_zero hl
  have HX:Hid (lu w.heap.size w [] (.returned (.slice none 0 0)) w):=⟨_,rfl,World.ownsRow_nil _ _ _ _,Below.refl _ _⟩
  clear hl
  go_enter Tryz.func229,Tryz.ntmps229
  go_wp2
  go_ret
  exact HX
 |some ad=>
  have hownA:(w.alloc (.cells #[] 9)).ownsRow w.heap.size 9 1 (.slice (some ⟨w.heap.size,0,none⟩) 0 0) 0 []:=World.ownsRow_made w #[] 0 (Nat.le_refl _) (by decide) rfl
  have jm:Below w.heap.size w (w.alloc (.cells #[] 9)):=(Below.refl _ _).alloc (Nat.le_refl _) _
  have Zf:Hid (aY (w.alloc (.cells #[] 9)) (some ad) n (l.map Value.string)):=HH.out.below jm
  have HL:=hid hl
  clear hl
  go_enter Tryz.func229,Tryz.ntmps229
  go_wp2_with (at_builtin;refine dH rfl _ _ 23 rfl w.heap.size 9 i0 (.string ByteArray.empty) 16 Tryz.underlying23 hi hz0 hz1 hz2 rfl _ 0 [] rfl hownA jm jm.size (some ad) n cap (l.map Value.string) rfl Zf.out (JE _) (by unfold maxLen;omega) (by omega) ?_)
  intro v3 w3 hown3 dG
  have HX:Hid (lu w.heap.size w l (.returned v3) w3):=⟨_,rfl,by rw[HL.out];simpa using hown3,dG⟩
  clear hownA jm Zf hown3
  go_wp2
  go_ret
  exact HX
theorem agi {w:World} {A:Option Addr} {n:Nat} {l:List ByteArray} (file:Bool) (hR:aY w A n (l.map Value.string)):aY w A (if keep file l then n else n - 1) ((mM file l).map Value.string):=by
 have hl:l.length=n:=by rw[←hR.1,List.length_map]
 unfold mM
 cases e:keep file l with
 |true=>simpa using hR
 |false=>
  rcases Nat.eq_zero_or_pos n with h0|h0
  ·obtain rfl:l=[]:=List.eq_nil_of_length_eq_zero (by omega)
   cases e
  obtain⟨g,off,rfl,_⟩:=hR.spot h0
  have:=hR.upto (n - 1) (by omega)
  rw[if_neg (by decide),if_neg (by decide),List.map_take,hl]
  exact this
theorem Ed (file:Bool) (A:Option Addr) (n cap:Nat) (l:List ByteArray) (w:World) (hR:aY w A n (l.map Value.string)) (hnc:n≤cap) (hcm:cap≤maxLen) (hm:n≤1000000):
  Calls Tryz.prog 219 #[.bool file,.slice A n cap] w (lu w.heap.size w (mM file l)):=by
 have HS:=hid (agi file hR)
 have HR:=hid hR
 obtain⟨m,hmm⟩:∃m,m=if keep file l then n else n - 1:=⟨_,rfl⟩
 have hmn:m≤1000000:=by rw[hmm];split<;>omega
 have HM:=hid hmm
 clear hR hmm
 go_enter Tryz.func219,Tryz.ntmps219
 go_wp2_with fail
 refine(xQ file A n cap l _ HR.out hnc hcm).mono ?_
 rintro e w2 ⟨rfl,rfl⟩
 rw[←HM.out]
 go_wp2_with fail
 refine(zS A m cap (mM file l) _ (by rw[HM.out];exact HS.out) hmn).mono ?_
 rintro e w3 ⟨v,rfl,hown,hb3⟩
 have HX:Hid (lu w.heap.size w (mM file l) (.returned v) w3):=⟨v,rfl,hown,hb3⟩
 clear hown
 go_wp2
 go_ret
 exact HX
end Go.Proofs.YtgamccijegollaaGreatDoor.ac2
namespace Go.Proofs.YtgamccijegollaaGreatDoor.acD
open Go.RowKit Base Dp acA Kr acG WR acv
def gB (sp:Bool) (c:UInt8):Bool:=decide (c=47)||(sp&&decide (c=92))
def upto (sp:Bool):List UInt8→Nat
 |[]=>0
 |c::L=>if gB sp c=true then 0 else upto sp L+1
theorem YH (sp:Bool):∀L:List UInt8,upto sp L≤L.length
 |[]=>Nat.le_refl _
 |c::L=>by
  have:=YH sp L
  unfold upto
  split
  ·omega
  ·simp;omega
def chs (sp:Bool):List UInt8:=if sp then[47,92]else[47]
theorem afd (sp:Bool) (c:UInt8):(chs sp).contains c=gB sp c:=by
 rw[Bool.eq_iff_iff]
 cases sp<;>simp[chs,gB]
theorem Vq (sp:Bool):∀L:List UInt8,Lib.indexAny L (chs sp)=if upto sp L<L.length then(upto sp L:Int)else -1
 |[]=>by simp[Lib.indexAny]
 | c :: L => by
  have ih:=Vq sp L
  rw[Lib.indexAny,afd,ih,upto]
  cases h:gB sp c with
  |true=>simp
  |false=>
   simp only[Bool.false_eq_true,if_false]
   by_cases h2:upto sp L<L.length
   ·have h3:((upto sp L:Int)== -1)=false:=by rw[beq_eq_false_iff_ne];omega
    have h4:upto sp L+1<(c::L).length:=by simp;omega
    simp only[if_pos h2,h3,h4,Bool.false_eq_true,if_false,if_true]
    omega
   ·have h4:¬upto sp L+1<(c::L).length:=by simp;omega
    simp only[if_neg h2,if_neg h4]
    rfl
def wb (file sp:Bool):List ByteArray→List UInt8→List UInt8→List ByteArray
 |l,b,[]=>Hu file true l b
 |l,b,c::M=>if gB sp c=true then wb file sp (Hu file false l b) [] M else wb file sp l (b++[c]) M
theorem agC (file sp:Bool):∀(M:List UInt8) (l:List ByteArray) (b:List UInt8),¬upto sp M<M.length→wb file sp l b M=Hu file true l (b++M)
 |[],l,b,_=>by rw[List.append_nil];rfl
 |c::M,l,b,h=>by
  unfold upto at h
  cases hs:gB sp c with
  |true=>rw[hs]at h;simp at h
  |false=>
   rw[hs,if_neg (by decide)]at h
   rw[wb,hs,if_neg (by decide),agC file sp M l (b++[c]) (by simp at h;omega),List.append_assoc]
   rfl
theorem agD (file sp:Bool):∀(M:List UInt8) (l:List ByteArray) (b:List UInt8),upto sp M<M.length→wb file sp l b M=wb file sp (Hu file false l (b++M.take (upto sp M))) [] (M.drop (upto sp M+1))
 |[],l,b,h=>by simp[upto]at h
 |c::M,l,b,h=>by
  unfold upto at h
  cases hs:gB sp c with
  |true=>
   rw[wb,hs,if_pos rfl,upto,hs,if_pos rfl]
   simp
  |false=>
   rw[hs,if_neg (by decide)]at h
   rw[wb,hs,if_neg (by decide),agD file sp M l (b++[c]) (by simp at h;omega),List.append_assoc,upto,hs,if_neg (by decide)]
   rfl
theorem vI (file last:Bool) (l:List ByteArray) (L:List UInt8):(Hu file last l L).length≤l.length+1:=by
 have h:(mM file l).length≤l.length:=by rw[GN];split<;>omega
 unfold Hu
 repeat' split
 all_goals simp
 all_goals omega
end Go.Proofs.YtgamccijegollaaGreatDoor.acD
namespace Go.Proofs.YtgamccijegollaaGreatDoor.aZ
open Go.RowKit Base
def aO (l:List ByteArray):List UInt8:=l.flatMap fun s=>47::s.data.toList
def pF (b6:Bool) (s7:ByteArray) (l:List ByteArray):List UInt8:=if b6 then s7.data.toList else aO l
def lD (s1 s2:ByteArray):List UInt8:=if s2.data.toList=[]then(if s1.data.toList=[]then[]else s1.data.toList++[64])else s1.data.toList++[58]++s2.data.toList++[64]
def kK (z5:Int):List UInt8:=if z5= -1 then[]else 58::Lib.itoa z5
def dotted (b6:Bool) (l:List ByteArray):Bool:= !b6&&match l with
 |a::_::_=>decide (a.data.toList=[])
 |_=>false
def ug (s1 s2 s3:ByteArray) (b4:Bool) (z5:Int) (b6:Bool) (l:List ByteArray):List UInt8:=
 if b4 then[47,47]++lD s1 s2++s3.data.toList++kK z5 else if dotted b6 l then[47,46]else[]
def wH (s0 s1 s2 s3:ByteArray) (b4:Bool) (z5:Int) (b6:Bool) (s7:ByteArray) (l:List ByteArray) (b9:Bool) (s11:ByteArray):List UInt8:=
 s0.data.toList++[58]++ug s1 s2 s3 b4 z5 b6 l++pF b6 s7 l++(if b9 then 63::s11.data.toList else[])
def adw (s0 s1 s2 s3 s7 s11 s12:ByteArray) (l:List ByteArray):Nat:=s0.size+s1.size+s2.size+s3.size+s7.size+s11.size+s12.size+(l.map (·.size)).sum
theorem abf (l:List ByteArray) (s:ByteArray):aO (l++[s])=aO l++(47::s.data.toList):=by simp[aO]
theorem fM (l:List ByteArray):(aO l).length=l.length+(l.map (·.size)).sum:=by
 induction l with
 |nil=>rfl
 |cons a l ih=>
  have e:aO (a::l)=(47::a.data.toList)++aO l:=rfl
  rw[e,List.length_append,ih]
  simp only[List.length_cons,List.map_cons,List.sum_cons]
  rw[show a.data.toList.length=a.size from Array.length_toList]
  omega
theorem take_snoc (l:List ByteArray) (k:Nat) (h:k<l.length):l.take (k+1)=l.take k++[l[k]]:=by
 rw[List.take_succ_eq_append_getElem h]
theorem pK (l:List ByteArray) (k:Nat):((l.take k).map (·.size)).sum≤(l.map (·.size)).sum:=by
 have h:l.map (·.size)=(l.take k).map (·.size)++(l.drop k).map (·.size):=by rw[←List.map_append,List.take_append_drop]
 rw[h,List.sum_append]
 omega
theorem AV (l:List ByteArray) (k:Nat) (h:k<l.length):((l.take (k+1)).map (·.size)).sum=((l.take k).map (·.size)).sum+l[k].size:=by
 rw[take_snoc l k h,List.map_append,List.sum_append]
 simp
theorem kX (L:List UInt8):(strOf L).data.toList=L:=rfl
theorem tl (s:ByteArray):s.toList=s.data.toList:=by
 obtain⟨d⟩:=s;rw[ByteArray.toList_mk]
end Go.Proofs.YtgamccijegollaaGreatDoor.aZ
namespace Go.Proofs.YtgamccijegollaaGreatDoor.aco
open Go.RowKit Base Dp aZ
def portOf (L:List UInt8):Int:=if L=[102,116,112]then 21 else if L=[104,116,116,112]∨L=[119,115]then 80 else if L=[104,116,116,112,115]∨L=[119,115,115]then 443 else -1
def special (L:List UInt8):Bool:=decide (L=[102,105,108,101])||decide (portOf L≠-1)
theorem sorts (L:List UInt8):L=[102,116,112]∨L=[104,116,116,112]∨L=[119,115]∨L=[104,116,116,112,115]∨L=[119,115,115]∨L=[102,105,108,101]∨(L≠[102,116,112]∧L≠[104,116,116,112]∧L≠[119,115]∧L≠[104,116,116,112,115]∧L≠[119,115,115]∧L≠[102,105,108,101]):=by
 by_cases h1:L=[102,116,112]
 ·exact .inl h1
 by_cases h2:L=[104,116,116,112]
 ·exact .inr (.inl h2)
 by_cases h3:L=[119,115]
 ·exact .inr (.inr (.inl h3))
 by_cases h4:L=[104,116,116,112,115]
 ·exact .inr (.inr (.inr (.inl h4)))
 by_cases h5:L=[119,115,115]
 ·exact .inr (.inr (.inr (.inr (.inl h5))))
 by_cases h6:L=[102,105,108,101]
 ·exact .inr (.inr (.inr (.inr (.inr (.inl h6)))))
 exact .inr (.inr (.inr (.inr (.inr (.inr ⟨h1,h2,h3,h4,h5,h6⟩)))))
theorem iD {s:ByteArray} {L:List UInt8} (h:s.data.toList=L):s=⟨L.toArray⟩:=by
 obtain⟨d⟩:=s
 subst h
 rfl
theorem jd {s:ByteArray} {L:List UInt8} (h:s.data.toList≠L):(s.toList==L)=false:=by
 rw[tl];simpa using h
theorem ML (s:ByteArray) (w:World):Calls Tryz.prog 221 #[.string s] w fun e w'=>e=.returned (.int .i64 (portOf s.data.toList))∧w'=w:=by
 rcases sorts s.data.toList with h|h|h|h|h|h|⟨h1,h2,h3,h4,h5,h6⟩
 ·obtain rfl:=iD h
  clear h
  go_enter Tryz.func221,Tryz.ntmps221
  go_wp2
  go_ret
  exact⟨rfl,rfl⟩
 ·obtain rfl:=iD h
  clear h
  go_enter Tryz.func221,Tryz.ntmps221
  go_wp2
  go_ret
  exact⟨rfl,rfl⟩
 ·obtain rfl:=iD h
  clear h
  go_enter Tryz.func221,Tryz.ntmps221
  go_wp2
  go_ret
  exact⟨rfl,rfl⟩
 ·obtain rfl:=iD h
  clear h
  go_enter Tryz.func221,Tryz.ntmps221
  go_wp2
  go_ret
  exact⟨rfl,rfl⟩
 ·obtain rfl:=iD h
  clear h
  go_enter Tryz.func221,Tryz.ntmps221
  go_wp2
  go_ret
  exact⟨rfl,rfl⟩
 ·obtain rfl:=iD h
  clear h
  go_enter Tryz.func221,Tryz.ntmps221
  go_wp2
  go_ret
  exact⟨rfl,rfl⟩
 have HP:Hid (portOf s.data.toList= -1):=by
  unfold portOf
  show _=_
  rw[if_neg h1,if_neg (by rintro(h|h);exact h2 h;exact h3 h),if_neg (by rintro(h|h);exact h4 h;exact h5 h)]
 have HS:Hid (special s.data.toList=false):=by
  unfold special
  show _=_
  rw[HP.out]
  simpa using h6
 replace h1:=jd h1
 replace h2:=jd h2
 replace h3:=jd h3
 replace h4:=jd h4
 replace h5:=jd h5
 replace h6:=jd h6
 go_enter Tryz.func221,Tryz.ntmps221
 go_wp2
 go_ret
 exact⟨iw HP.out.symm,rfl⟩
theorem jv (s:ByteArray) (w:World):Calls Tryz.prog 115 #[.string s] w fun e w'=>e=.returned (.bool (special s.data.toList))∧w'=w:=by
 by_cases h:s.data.toList=[102,105,108,101]
 ·obtain rfl:=iD h
  clear h
  go_enter Tryz.func115,Tryz.ntmps115
  go_wp2
  go_ret
  exact⟨rfl,rfl⟩
 obtain⟨p,hp⟩:∃p,p=portOf s.data.toList:=⟨_,rfl⟩
 have HS:Hid (special s.data.toList=decide (p≠-1)):=by
  unfold special
  show _=_
  rw[←hp,decide_eq_false h]
  rfl
 have HP:=hid hp
 replace h:=jd h
 clear hp
 go_enter Tryz.func115,Tryz.ntmps115
 go_wp2_with fail
 refine(ML _ _).mono ?_
 rintro e w1 ⟨rfl,rfl⟩
 rw[←HP.out]
 by_cases e1:p= -1
 ·subst e1
  go_wp2
  go_ret
  exact⟨ak HS.out.symm,rfl⟩
 have q1:(p== -1)=false:=by simpa using e1
 have q2:(p != -1)=true:=by simpa using e1
 have HE:Hid (decide (p≠-1)=true):=decide_eq_true e1
 clear e1
 go_wp2
 go_ret
 exact⟨ak (by rw[HS.out,HE.out]),rfl⟩
end Go.Proofs.YtgamccijegollaaGreatDoor.aco
namespace Go.Proofs.YtgamccijegollaaGreatDoor.qh
open Go.RowKit Base
def size (c:Int):Int:=if c≤127 then 1 else if 194≤c∧c≤223 then 2 else if 224≤c∧c≤239 then 3 else if 240≤c∧c≤244 then 4 else 0
def lo (c:Int):Int:=if c≤193∨245≤c then 0 else if c=224 then 160 else if c=240 then 144 else 128
def hi (c:Int):Int:=if c≤193∨245≤c then 0 else if c=237 then 159 else if c=244 then 143 else 191
theorem lead_any (c:Int) (w:World):Calls Tryz.prog 245 #[.int .u8 c] w fun e w'=>e=.returned (.tuple #[.int .i64 (size c),.int .u8 (lo c),.int .u8 (hi c)])∧w=w':=by
 go_enter Tryz.func245,Tryz.ntmps245
 go_wp2
 all_goals
  try simp only[beq_iff_eq,beq_eq_false_iff_ne,ne_eq]at*
  go_ret3
  exact⟨ret3 (int_eq (by unfold size;(repeat' split)<;>omega)) (int_eq (by unfold lo;(repeat' split)<;>omega)) (int_eq (by unfold hi;(repeat' split)<;>omega)),rfl⟩
theorem anj (b off n cap:Nat) (c:Int) (w:World) (hc:w.cell? ⟨b,off,none⟩=some (.int .u8 c)) (h0:0<n) (h1:0≤c) (h2:c≤127):
  Calls Tryz.prog 147 #[.slice (some ⟨b,off,none⟩) n cap] w fun e w'=>e=.returned (.tuple #[.int .i32 c,.int .i64 1,.bool true])∧w=w':=by
 have hs:size c=1:=by unfold size;(repeat' split)<;>omega
 have HS:=hid hs
 clear hs
 have hp:(0:Int)<(n:Int):=by omega
 go_enter Tryz.func147,Tryz.ntmps147
 go_wp2_with (go_at_call 245;refine(lead_any _ _).mono ?_;rintro e w' ⟨rfl,rfl⟩;rw[HS.out])
 go_ret3
 exact⟨rfl,rfl⟩
theorem ais (b off n cap:Nat) (c:Int) (w:World) (hc:w.cell? ⟨b,off,none⟩=some (.int .u8 c)) (h0:0<n) (h1:(128≤c∧c≤193)∨245≤c):
  Calls Tryz.prog 147 #[.slice (some ⟨b,off,none⟩) n cap] w fun e w'=>e=.returned (.tuple #[.int .i32 65533,.int .i64 1,.bool false])∧w=w':=by
 have hs:size c=0:=by unfold size;(repeat' split)<;>omega
 have HS:=hid hs
 clear hs
 have hp:(0:Int)<(n:Int):=by omega
 go_enter Tryz.func147,Tryz.ntmps147
 go_wp2_with (go_at_call 245;refine(lead_any _ _).mono ?_;rintro e w' ⟨rfl,rfl⟩;rw[HS.out])
 go_ret3
 exact⟨rfl,rfl⟩
def tail:Nat→Nat→Int→Int→Int→List UInt8→Int×Int×Bool
 |0,k,_,_,r,_=>(r,k,true)
 |_+1,k,_,_,_,[]=>(65533,k,false)
 |m+1,k,l,h,r,c::t=>if (c.toNat:Int)<l∨h<(c.toNat:Int)then(65533,k,false)else tail m (k+1) 128 191 (r*64+(c.toNat:Int)%64) t
def room:Nat→Int
 |0=>0
 |1=>32
 |2=>2048
 |3=>131072
 |_=>8388608
theorem uI (k:Nat) (h0:1≤k) (h1:k≤3):room (k+1)=room k*64∧room k≤131072:=by
 match k,h0,h1 with
 |1,_,_=>decide
 |2,_,_=>decide
 |3,_,_=>decide
theorem read_2 (b off cap:Nat) (L:List UInt8) (c:Int) (w:World) (hc:w.cell? ⟨b,off,none⟩=some (.int .u8 c)) (hL:∀j (h:j<L.length),w.cell? ⟨b,off+j,none⟩=some (.int .u8 (L[j].toNat:Int)))
  (hm:L.length≤maxLen) (h0:0<L.length) (h1:194≤c) (h2:c≤223) (R:Int×Int×Bool) (hR:R=tail 1 1 (lo c) (hi c) (c%32) (L.drop 1)):
  Calls Tryz.prog 147 #[.slice (some ⟨b,off,none⟩) L.length cap] w fun e w'=>e=.returned (.tuple #[.int .i32 R.1,.int .i64 R.2.1,.bool R.2.2])∧Below w.heap.size w w':=by
 have hs:size c=2:=by unfold size;(repeat' split)<;>omega
 have HS:=hid hs
 clear hs
 unfold maxLen at hm
 have hp:(0:Int)<(L.length:Int):=by omega
 have HL:=hid hL
 clear hL
 have HR:=hid hR
 clear hR
 have hr0:0≤c%32∧c%32<32:=by omega
 go_enter Tryz.func147,Tryz.ntmps147
 go_wp2_with (go_at_call 245;refine(lead_any _ _).mono ?_;rintro e w' ⟨rfl,rfl⟩;rw[HS.out])
 go_quiet (fail)
 go_wp2
 go_loop [6,7,8,9] (fun vl vh vr vk=>∃(k:Nat) (l h r:Int),1≤k∧k≤2∧k≤L.length∧vk=.int .i64 k∧vl=.int .u8 l∧vh=.int .u8 h∧vr=.int .i32 r∧0≤r∧r<room k∧Hid (R=tail (2 - k) k l h r (L.drop k))) (fun _ _ _ vk=>2 - (intOf vk).toNat)
 case atStart=>exact⟨1,lo c,hi c,c%32,by omega,by omega,by omega,rfl,rfl,rfl,rfl,hr0.1,hr0.2,HR⟩
 case round=>
  obtain⟨k,l,h,r,hk1,hk2,hkn,rfl,rfl,rfl,rfl,hr1,hr2,HT⟩:=hrel
  by_cases hlt:k<2
  ·obtain ⟨hb1,hb2⟩:=uI k hk1 (by omega)
   have HB:=hid hb1
   clear hb1
   have hr3:r<131072:=by omega
   have es:2 - k=(2 - (k+1))+1:=by omega
   have HT2:Hid (R=tail ((2 - (k+1))+1) k l h r (L.drop k)):=by rw[←es];exact HT
   clear es HT
   by_cases hn:k<L.length
   ·obtain ⟨x,hx⟩:∃x,x=L[k]:=⟨_,rfl⟩
    have hcell:w.cell? ⟨b,off+k,none⟩=some (.int .u8 (x.toNat:Int)):=by rw[hx];exact HL.out k hn
    have HT3:Hid (R=tail ((2 - (k+1))+1) k l h r (x::L.drop (k+1))):=by
     have hd:L.drop k=x::L.drop (k+1):=by rw[hx];exact List.drop_eq_getElem_cons hn
     rw[←hd];exact HT2
    clear HT2 hx
    have hx2:(x.toNat:Int)<256:=by have:=x.toNat_lt;omega
    have hne:((k:Int)==(L.length:Int))=false:=by simp;omega
    by_cases ht:(x.toNat:Int)<l∨h<(x.toNat:Int)
    ·have HT4:Hid (R=(65533,(k:Int),false)):=by
      have e:=HT3.out
      rw[tail,if_pos ht]at e
      exact e
     clear HT3
     go_wp2
     all_goals
      go_ret3
      rw[HT4.out]
      exact⟨rfl,Base.below_drewN (Below.refl _ _) _⟩
    ·have HT4:Hid (R=tail (2 - (k+1)) (k+1) 128 191 (r*64+(x.toNat:Int)%64) (L.drop (k+1))):=by
      have e:=HT3.out
      rw[tail,if_neg ht]at e
      exact e
     clear HT3
     have ht1:l≤(x.toNat:Int):=by omega
     have ht2:(x.toNat:Int)≤h:=by omega
     clear ht
     go_wp2
     go_round
     case rel=>exact⟨k+1,128,191,r*64+(x.toNat:Int)%64,by omega,by omega,by omega,by go_num,rfl,rfl,rfl,by omega,by rw[HB.out];omega,HT4⟩
     case measure=>simp[intOf];omega
   ·obtain rfl:k=L.length:=by omega
    have HT4:Hid (R=(65533,(L.length:Int),false)):=by
     have e:=HT2.out
     rw[List.drop_length,tail]at e
     exact e
    clear HT2
    go_wp2
    go_ret3
    rw[HT4.out]
    exact⟨rfl,Base.below_drewN (Below.refl _ _) _⟩
  ·obtain rfl:k=2:=by omega
   have HT4:Hid (R=(r,2,true)):=by
    have e:=HT.out
    rw[Nat.sub_self,tail]at e
    exact e
   clear HT
   go_wp2
   go_ret3
   rw[HT4.out]
   exact⟨rfl,Base.below_drewN (Below.refl _ _) _⟩
theorem read_3 (b off cap:Nat) (L:List UInt8) (c:Int) (w:World) (hc:w.cell? ⟨b,off,none⟩=some (.int .u8 c)) (hL:∀j (h:j<L.length),w.cell? ⟨b,off+j,none⟩=some (.int .u8 (L[j].toNat:Int)))
  (hm:L.length≤maxLen) (h0:0<L.length) (h1:224≤c) (h2:c≤239) (R:Int×Int×Bool) (hR:R=tail 2 1 (lo c) (hi c) (c%16) (L.drop 1)):
  Calls Tryz.prog 147 #[.slice (some ⟨b,off,none⟩) L.length cap] w fun e w'=>e=.returned (.tuple #[.int .i32 R.1,.int .i64 R.2.1,.bool R.2.2])∧Below w.heap.size w w':=by
 have hs:size c=3:=by unfold size;(repeat' split)<;>omega
 have HS:=hid hs
 clear hs
 unfold maxLen at hm
 have hp:(0:Int)<(L.length:Int):=by omega
 have HL:=hid hL
 clear hL
 have HR:=hid hR
 clear hR
 have hr0:0≤c%16∧c%16<32:=by omega
 go_enter Tryz.func147,Tryz.ntmps147
 go_wp2_with (go_at_call 245;refine(lead_any _ _).mono ?_;rintro e w' ⟨rfl,rfl⟩;rw[HS.out])
 go_quiet (fail)
 go_wp2
 go_loop [6,7,8,9] (fun vl vh vr vk=>∃(k:Nat) (l h r:Int),1≤k∧k≤3∧k≤L.length∧vk=.int .i64 k∧vl=.int .u8 l∧vh=.int .u8 h∧vr=.int .i32 r∧0≤r∧r<room k∧Hid (R=tail (3 - k) k l h r (L.drop k))) (fun _ _ _ vk=>3 - (intOf vk).toNat)
 case atStart=>exact⟨1,lo c,hi c,c%16,by omega,by omega,by omega,rfl,rfl,rfl,rfl,hr0.1,hr0.2,HR⟩
 case round=>
  obtain⟨k,l,h,r,hk1,hk2,hkn,rfl,rfl,rfl,rfl,hr1,hr2,HT⟩:=hrel
  by_cases hlt:k<3
  ·obtain ⟨hb1,hb2⟩:=uI k hk1 (by omega)
   have HB:=hid hb1
   clear hb1
   have hr3:r<131072:=by omega
   have es:3 - k=(3 - (k+1))+1:=by omega
   have HT2:Hid (R=tail ((3 - (k+1))+1) k l h r (L.drop k)):=by rw[←es];exact HT
   clear es HT
   by_cases hn:k<L.length
   ·obtain ⟨x,hx⟩:∃x,x=L[k]:=⟨_,rfl⟩
    have hcell:w.cell? ⟨b,off+k,none⟩=some (.int .u8 (x.toNat:Int)):=by rw[hx];exact HL.out k hn
    have HT3:Hid (R=tail ((3 - (k+1))+1) k l h r (x::L.drop (k+1))):=by
     have hd:L.drop k=x::L.drop (k+1):=by rw[hx];exact List.drop_eq_getElem_cons hn
     rw[←hd];exact HT2
    clear HT2 hx
    have hx2:(x.toNat:Int)<256:=by have:=x.toNat_lt;omega
    have hne:((k:Int)==(L.length:Int))=false:=by simp;omega
    by_cases ht:(x.toNat:Int)<l∨h<(x.toNat:Int)
    ·have HT4:Hid (R=(65533,(k:Int),false)):=by
      have e:=HT3.out
      rw[tail,if_pos ht]at e
      exact e
     clear HT3
     go_wp2
     all_goals
      go_ret3
      rw[HT4.out]
      exact⟨rfl,Base.below_drewN (Below.refl _ _) _⟩
    ·have HT4:Hid (R=tail (3 - (k+1)) (k+1) 128 191 (r*64+(x.toNat:Int)%64) (L.drop (k+1))):=by
      have e:=HT3.out
      rw[tail,if_neg ht]at e
      exact e
     clear HT3
     have ht1:l≤(x.toNat:Int):=by omega
     have ht2:(x.toNat:Int)≤h:=by omega
     clear ht
     go_wp2
     go_round
     case rel=>exact⟨k+1,128,191,r*64+(x.toNat:Int)%64,by omega,by omega,by omega,by go_num,rfl,rfl,rfl,by omega,by rw[HB.out];omega,HT4⟩
     case measure=>simp[intOf];omega
   ·obtain rfl:k=L.length:=by omega
    have HT4:Hid (R=(65533,(L.length:Int),false)):=by
     have e:=HT2.out
     rw[List.drop_length,tail]at e
     exact e
    clear HT2
    go_wp2
    go_ret3
    rw[HT4.out]
    exact⟨rfl,Base.below_drewN (Below.refl _ _) _⟩
  ·obtain rfl:k=3:=by omega
   have HT4:Hid (R=(r,3,true)):=by
    have e:=HT.out
    rw[Nat.sub_self,tail]at e
    exact e
   clear HT
   go_wp2
   go_ret3
   rw[HT4.out]
   exact⟨rfl,Base.below_drewN (Below.refl _ _) _⟩
theorem read_4 (b off cap:Nat) (L:List UInt8) (c:Int) (w:World) (hc:w.cell? ⟨b,off,none⟩=some (.int .u8 c)) (hL:∀j (h:j<L.length),w.cell? ⟨b,off+j,none⟩=some (.int .u8 (L[j].toNat:Int)))
  (hm:L.length≤maxLen) (h0:0<L.length) (h1:240≤c) (h2:c≤244) (R:Int×Int×Bool) (hR:R=tail 3 1 (lo c) (hi c) (c%8) (L.drop 1)):
  Calls Tryz.prog 147 #[.slice (some ⟨b,off,none⟩) L.length cap] w fun e w'=>e=.returned (.tuple #[.int .i32 R.1,.int .i64 R.2.1,.bool R.2.2])∧Below w.heap.size w w':=by
 have hs:size c=4:=by unfold size;(repeat' split)<;>omega
 have HS:=hid hs
 clear hs
 unfold maxLen at hm
 have hp:(0:Int)<(L.length:Int):=by omega
 have HL:=hid hL
 clear hL
 have HR:=hid hR
 clear hR
 have hr0:0≤c%8∧c%8<32:=by omega
 go_enter Tryz.func147,Tryz.ntmps147
 go_wp2_with (go_at_call 245;refine(lead_any _ _).mono ?_;rintro e w' ⟨rfl,rfl⟩;rw[HS.out])
 go_quiet (fail)
 go_wp2
 go_loop [6,7,8,9] (fun vl vh vr vk=>∃(k:Nat) (l h r:Int),1≤k∧k≤4∧k≤L.length∧vk=.int .i64 k∧vl=.int .u8 l∧vh=.int .u8 h∧vr=.int .i32 r∧0≤r∧r<room k∧Hid (R=tail (4 - k) k l h r (L.drop k))) (fun _ _ _ vk=>4 - (intOf vk).toNat)
 case atStart=>exact⟨1,lo c,hi c,c%8,by omega,by omega,by omega,rfl,rfl,rfl,rfl,hr0.1,hr0.2,HR⟩
 case round=>
  obtain⟨k,l,h,r,hk1,hk2,hkn,rfl,rfl,rfl,rfl,hr1,hr2,HT⟩:=hrel
  by_cases hlt:k<4
  ·obtain ⟨hb1,hb2⟩:=uI k hk1 (by omega)
   have HB:=hid hb1
   clear hb1
   have hr3:r<131072:=by omega
   have es:4 - k=(4 - (k+1))+1:=by omega
   have HT2:Hid (R=tail ((4 - (k+1))+1) k l h r (L.drop k)):=by rw[←es];exact HT
   clear es HT
   by_cases hn:k<L.length
   ·obtain ⟨x,hx⟩:∃x,x=L[k]:=⟨_,rfl⟩
    have hcell:w.cell? ⟨b,off+k,none⟩=some (.int .u8 (x.toNat:Int)):=by rw[hx];exact HL.out k hn
    have HT3:Hid (R=tail ((4 - (k+1))+1) k l h r (x::L.drop (k+1))):=by
     have hd:L.drop k=x::L.drop (k+1):=by rw[hx];exact List.drop_eq_getElem_cons hn
     rw[←hd];exact HT2
    clear HT2 hx
    have hx2:(x.toNat:Int)<256:=by have:=x.toNat_lt;omega
    have hne:((k:Int)==(L.length:Int))=false:=by simp;omega
    by_cases ht:(x.toNat:Int)<l∨h<(x.toNat:Int)
    ·have HT4:Hid (R=(65533,(k:Int),false)):=by
      have e:=HT3.out
      rw[tail,if_pos ht]at e
      exact e
     clear HT3
     go_wp2
     all_goals
      go_ret3
      rw[HT4.out]
      exact⟨rfl,Base.below_drewN (Below.refl _ _) _⟩
    ·have HT4:Hid (R=tail (4 - (k+1)) (k+1) 128 191 (r*64+(x.toNat:Int)%64) (L.drop (k+1))):=by
      have e:=HT3.out
      rw[tail,if_neg ht]at e
      exact e
     clear HT3
     have ht1:l≤(x.toNat:Int):=by omega
     have ht2:(x.toNat:Int)≤h:=by omega
     clear ht
     go_wp2
     go_round
     case rel=>exact⟨k+1,128,191,r*64+(x.toNat:Int)%64,by omega,by omega,by omega,by go_num,rfl,rfl,rfl,by omega,by rw[HB.out];omega,HT4⟩
     case measure=>simp[intOf];omega
   ·obtain rfl:k=L.length:=by omega
    have HT4:Hid (R=(65533,(L.length:Int),false)):=by
     have e:=HT2.out
     rw[List.drop_length,tail]at e
     exact e
    clear HT2
    go_wp2
    go_ret3
    rw[HT4.out]
    exact⟨rfl,Base.below_drewN (Below.refl _ _) _⟩
  ·obtain rfl:k=4:=by omega
   have HT4:Hid (R=(r,4,true)):=by
    have e:=HT.out
    rw[Nat.sub_self,tail]at e
    exact e
   clear HT
   go_wp2
   go_ret3
   rw[HT4.out]
   exact⟨rfl,Base.below_drewN (Below.refl _ _) _⟩
end Go.Proofs.YtgamccijegollaaGreatDoor.qh
namespace Go.Proofs.YtgamccijegollaaGreatDoor.qh
open Go.RowKit Base
def rd:List UInt8→Int×Int×Bool
 |[]=>(65533,1,false)
 |x::t=>
  let c:Int:=x.toNat
  if c≤127 then(c,1,true)else if c≤193∨245≤c then(65533,1,false)else if c≤223 then tail 1 1 (lo c) (hi c) (c%32) t else if c≤239 then tail 2 1 (lo c) (hi c) (c%16) t else tail 3 1 (lo c) (hi c) (c%8) t
theorem abl (b off n cap:Nat) (L:List UInt8) (w:World) (h:aY w (some ⟨b,off,none⟩) n (ah L)) (hm:n≤maxLen) (h0:0<n) (R:Int×Int×Bool) (hR:R=rd L):
  Calls Tryz.prog 147 #[.slice (some ⟨b,off,none⟩) n cap] w fun e w'=>e=.returned (.tuple #[.int .i32 R.1,.int .i64 R.2.1,.bool R.2.2])∧Below w.heap.size w w':=by
 have hl:L.length=n:=by rw[←aI];exact h.1
 subst hl
 obtain⟨x,t,rfl⟩:∃x t,L=x::t:=by
  cases L with
  |nil=>simp at h0
  |cons x t=>exact⟨x,t,rfl⟩
 have hc:w.cell? ⟨b,off,none⟩=some (.int .u8 (x.toNat:Int)):=by
  have:=h.byte 0 (by simp)
  rw[Nat.add_zero]at this
  exact this
 have hL:∀j (hj:j<(x::t).length),w.cell? ⟨b,off+j,none⟩=some (.int .u8 ((x::t)[j].toNat:Int)):=fun j hj=>h.byte j hj
 have hx:(x.toNat:Int)<256:=by have:=x.toNat_lt;omega
 by_cases h1:(x.toNat:Int)≤127
 ·rw[rd,if_pos h1]at hR
  subst hR
  exact(anj b off _ cap _ w hc h0 (by omega) h1).mono fun e w' ⟨he,hw⟩=>⟨he,hw▸Below.refl _ _⟩
 by_cases h2:(x.toNat:Int)≤193∨245≤(x.toNat:Int)
 ·rw[rd,if_neg h1,if_pos h2]at hR
  subst hR
  exact(ais b off _ cap _ w hc h0 (by omega)).mono fun e w' ⟨he,hw⟩=>⟨he,hw▸Below.refl _ _⟩
 by_cases h3:(x.toNat:Int)≤223
 ·rw[rd,if_neg h1,if_neg h2,if_pos h3]at hR
  exact read_2 b off cap _ _ w hc hL hm h0 (by omega) (by omega) R hR
 by_cases h4:(x.toNat:Int)≤239
 ·rw[rd,if_neg h1,if_neg h2,if_neg h3,if_pos h4]at hR
  exact read_3 b off cap _ _ w hc hL hm h0 (by omega) (by omega) R hR
 ·rw[rd,if_neg h1,if_neg h2,if_neg h3,if_neg h4]at hR
  exact read_4 b off cap _ _ w hc hL hm h0 (by omega) (by omega) R hR
theorem tail_size:∀(m k:Nat) (l h r:Int) (t:List UInt8),(k:Int)≤(tail m k l h r t).2.1∧(tail m k l h r t).2.1≤k+t.length
 |0,k,_,_,_,t=>by simp[tail];omega
 |m+1,k,l,h,r,[]=>by simp[tail]
 |m+1,k,l,h,r,c::t=>by
  rw[tail]
  split
  ·simp;omega
  ·have:=tail_size m (k+1) 128 191 (r*64+(c.toNat:Int)%64) t
   simp only[List.length_cons]
   omega
theorem nJ (x:UInt8) (t:List UInt8):1≤(rd (x::t)).2.1∧(rd (x::t)).2.1≤(t.length:Int)+1:=by
 simp only[rd]
 (repeat' split)
 ·simp;omega
 ·simp;omega
 ·have:=tail_size 1 1 (lo x.toNat) (hi x.toNat) (x.toNat%32) t;omega
 ·have:=tail_size 2 1 (lo x.toNat) (hi x.toNat) (x.toNat%16) t;omega
 have:=tail_size 3 1 (lo x.toNat) (hi x.toNat) (x.toNat%8) t;omega
def xI:Nat→List UInt8→List Int
 |0,_=>[]
 |_+1,[]=>[]
 |n+1,x::t=>(rd (x::t)).1::xI n ((x::t).drop (rd (x::t)).2.1.toNat)
def dec (L:List UInt8):List Int:=xI L.length L
theorem uy:∀(n m:Nat) (L:List UInt8),L.length≤n→L.length≤m→xI n L=xI m L
 |0,0,_,_,_=>rfl
 |0,m+1,[],_,_=>rfl
 |0,_+1,_::_,h,_=>by simp at h
 |n+1,0,[],_,_=>rfl
 |_+1,0,_::_,_,h=>by simp at h
 |_+1,_+1,[],_,_=>rfl
 |n+1,m+1,x::t,h1,h2=>by
  have hs:=nJ x t
  simp only[List.length_cons]at h1 h2
  rw[xI,xI,uy n m _ (by simp;omega) (by simp;omega)]
theorem lT:dec []=[]:=rfl
theorem iK (x:UInt8) (t:List UInt8):dec (x::t)=(rd (x::t)).1::dec ((x::t).drop (rd (x::t)).2.1.toNat):=by
 have hs:=nJ x t
 unfold dec
 rw[List.length_cons,xI,uy _ _ _ (by simp;omega) (Nat.le_refl _)]
theorem Qc (L:List UInt8) (k:Nat) (h:k<L.length):
  dec (L.drop k)=(rd (L.drop k)).1::dec (L.drop (k+(rd (L.drop k)).2.1.toNat))∧1≤(rd (L.drop k)).2.1∧(rd (L.drop k)).2.1≤(L.length:Int) - k:=by
 obtain⟨x,t,ht⟩:∃x t,L.drop k=x::t:=by
  cases e:L.drop k with
  |nil=>simp at e;omega
  |cons x t=>exact⟨x,t,rfl⟩
 have hs:=nJ x t
 have hl:(L.drop k).length=L.length - k:=List.length_drop
 rw[ht,List.length_cons]at hl
 refine⟨?_,?_,?_⟩
 ·rw[ht,iK,←ht,List.drop_drop]
 ·rw[ht];exact hs.1
 ·rw[ht];omega
theorem info21:(Tryz.prog.info? 21).map (fun i=>(i.zero,i.size,i.bytes))=some (some (.int .i32 0),1,4):=by kernel_rfl
theorem decode_any (A:Option Addr) (n cap:Nat) (L:List UInt8) (w:World) (h:aY w A n (ah L)) (hm:n≤1073741824) (hcap:n≤cap):
  Calls Tryz.prog 59 #[.slice A n cap] w fun e w'=>∃v,e=.returned v∧w'.ownsRow w.heap.size 21 1 v (dec L).length (gV .i32 (dec L))∧Below w.heap.size w w':=by
 have hl:L.length=n:=by rw[←aI];exact h.1
 have HL:=hid hl
 clear hl
 obtain⟨i0,hi,hz0,hz1,hz2⟩:=info_parts info21
 have HH:=hid h
 clear h
 go_enter Tryz.func59,Tryz.ntmps59
 go_wp2
 go_loopw [3,4] (fun v vk wr=>∃(k:Nat) (acc:List Int),k≤n∧acc.length≤k∧vk=.int .i64 k∧wr.ownsRow w.heap.size 21 1 v acc.length (gV .i32 acc)∧Below w.heap.size w wr∧Hid (acc++dec (L.drop k)=dec L)) (fun _ vk _=>n - (intOf vk).toNat)
 case atStart=>exact⟨0,[],Nat.zero_le _,Nat.le_refl _,rfl,World.ownsRow_nil _ _ _ _,Below.refl _ _,rfl⟩
 case round =>
  obtain⟨k,acc,hk,hacc,rfl,hown,hbel,HT⟩:=hrel
  by_cases hlt:k<n
  ·obtain ⟨b,off,rfl,hb,_⟩:=(HH.out).spot (by omega)
   have hcut:Hid (aY wr (some ⟨b,off+k,none⟩) (n - k) (ah (L.drop k))):=by
    rw[jl]
    exact(HH.out.cut k hk).below hbel
   have hne:¬cap=k:=by omega
   obtain⟨hd1,hd2,hd3⟩:=Qc L k (by rw[HL.out];exact hlt)
   obtain⟨R,hR⟩:∃R,R=rd (L.drop k):=⟨_,rfl⟩
   rw[←hR]at hd1 hd2 hd3
   rw[HL.out]at hd3
   have HD:=hid hd1
   have HR:=hid hR
   clear hd1 hR
   go_wp2_with fail
   refine(abl b (off+k) (n - k) (cap - k) (L.drop k) _ hcut.out (by unfold maxLen;omega) (by omega) R HR.out).mono ?_
   rintro e w1 ⟨rfl,hb1⟩
   have hown1:=aP hown hb1
   have gW:=hbel.trans (hb1.mono hbel.size)
   clear hown hbel
   go_wp2_with (at_builtin;refine wpList_append_own _ rfl _ _ 107 rfl w.heap.size 21 i0 (.int .i32 0) 1 4 Tryz.underlying107 hi hz0 hz1 hz2 rfl (by decide) _ _ _ rfl (hown1.alloc _) ⟨w1.heap.size,0,none⟩ 1 1 [.int .i32 R.1] rfl rfl ?c1 ?c2 ?c3 ?c4 ?c5 ?_)
   case c1=>exact cell_one_new _ _ _
   case c2=>intro u hu;simp at hu;subst hu;rfl
   case c3=>unfold maxLen;omega
   case c4=>omega
   case c5=>have:=gW.size;simp;omega
   intro v' w2 hown2 hg2 _
   have dZ:Below w.heap.size w w2:=(gW.alloc gW.size _).grown hg2 (by have:=gW.size;simp;omega) (fun g hg=>(hown1.lt g hg).1)
   clear hown1 gW hg2
   go_wp2
   go_roundw
   case rel=>exact⟨k+R.2.1.toNat,acc++[R.1],by omega,by simp;omega,by rw[show((k+R.2.1.toNat:Nat):Int)=(k:Int)+R.2.1 by omega],by rw[iE,List.length_append];exact hown2,dZ,by
     have:=HT.out
     rw[HD.out]at this
     rw[List.append_assoc]
     exact this⟩
   case measure=>simp[intOf];omega
  ·obtain rfl:k=n:=by omega
   have HE:Hid (acc=dec L):=by
    have e:=HT.out
    rw[←HL.out,List.drop_length,lT,List.append_nil]at e
    exact e
   go_wp2
   go_ret
   exact⟨_,rfl,by rw[←HE.out];exact hown,hbel⟩
def aeM:Nat→List UInt8→Bool
 |0,_=>true
 |_+1,[]=>true
 |n+1,x::t=>(rd (x::t)).2.2&&aeM n ((x::t).drop (rd (x::t)).2.1.toNat)
def val (L:List UInt8):Bool:=aeM L.length L
theorem Wu:∀(n m:Nat) (L:List UInt8),L.length≤n→L.length≤m→aeM n L=aeM m L
 |0,0,_,_,_=>rfl
 |0,m+1,[],_,_=>rfl
 |0,_+1,_::_,h,_=>by simp at h
 |n+1,0,[],_,_=>rfl
 |_+1,0,_::_,_,h=>by simp at h
 |_+1,_+1,[],_,_=>rfl
 |n+1,m+1,x::t,h1,h2=>by
  have hs:=nJ x t
  simp only[List.length_cons]at h1 h2
  rw[aeM,aeM,Wu n m _ (by simp;omega) (by simp;omega)]
theorem sH (x:UInt8) (t:List UInt8):val (x::t)=((rd (x::t)).2.2&&val ((x::t).drop (rd (x::t)).2.1.toNat)):=by
 have hs:=nJ x t
 unfold val
 rw[List.length_cons,aeM,Wu _ _ _ (by simp;omega) (Nat.le_refl _)]
theorem ab5 (L:List UInt8) (k:Nat) (h:k<L.length):val (L.drop k)=((rd (L.drop k)).2.2&&val (L.drop (k+(rd (L.drop k)).2.1.toNat))):=by
 obtain⟨x,t,ht⟩:∃x t,L.drop k=x::t:=by
  cases e:L.drop k with
  |nil=>simp at e;omega
  |cons x t=>exact⟨x,t,rfl⟩
 rw[ht,sH,←ht,List.drop_drop]
theorem fF (A:Option Addr) (n cap:Nat) (L:List UInt8) (w:World) (h:aY w A n (ah L)) (hm:n≤1073741824) (hcap:n≤cap):
  Calls Tryz.prog 264 #[.slice A n cap] w fun e w'=>e=.returned (.bool (val L))∧Below w.heap.size w w':=by
 have hl:L.length=n:=by rw[←aI];exact h.1
 have HL:=hid hl
 clear hl
 have HH:=hid h
 clear h
 go_enter Tryz.func264,Tryz.ntmps264
 go_wp2
 go_loopw [3] (fun vk wr=>∃(k:Nat),k≤n∧vk=.int .i64 k∧Below w.heap.size w wr∧Hid (val (L.drop k)=val L)) (fun vk _=>n - (intOf vk).toNat)
 case atStart=>exact⟨0,Nat.zero_le _,rfl,Below.refl _ _,rfl⟩
 case round =>
  obtain⟨k,hk,rfl,hbel,HT⟩:=hrel
  by_cases hlt:k<n
  ·obtain ⟨b,off,rfl,hb,_⟩:=(HH.out).spot (by omega)
   have hcut:Hid (aY wr (some ⟨b,off+k,none⟩) (n - k) (ah (L.drop k))):=by
    rw[jl]
    exact(HH.out.cut k hk).below hbel
   have hne:¬cap=k:=by omega
   obtain⟨_,hd2,hd3⟩:=Qc L k (by rw[HL.out];exact hlt)
   have hd1:=ab5 L k (by rw[HL.out];exact hlt)
   obtain⟨R,hR⟩:∃R,R=rd (L.drop k):=⟨_,rfl⟩
   rw[←hR]at hd1 hd2 hd3
   rw[HL.out]at hd3
   have HD:=hid hd1
   have HR:=hid hR
   clear hd1 hR
   go_wp2_with fail
   refine(abl b (off+k) (n - k) (cap - k) (L.drop k) _ hcut.out (by unfold maxLen;omega) (by omega) R HR.out).mono ?_
   rintro e w1 ⟨rfl,hb1⟩
   have gW:=hbel.trans (hb1.mono hbel.size)
   clear hbel
   cases hw:R.2.2
   ·have HV:Hid (val L=false):=by
     have e:=HT.out
     rw[HD.out,hw]at e
     exact e.symm
    go_wp2
    go_ret
    rw[HV.out]
    exact⟨rfl,gW⟩
   ·have HV:Hid (val (L.drop (k+R.2.1.toNat))=val L):=by
     have e:=HT.out
     rw[HD.out,hw,Bool.true_and]at e
     exact e
    go_wp2
    go_roundw
    case rel=>exact⟨k+R.2.1.toNat,by omega,by rw[show((k+R.2.1.toNat:Nat):Int)=(k:Int)+R.2.1 by omega],gW,HV⟩
    case measure=>simp[intOf];omega
  ·obtain rfl:k=n:=by omega
   have HE:Hid (val L=true):=by
    have e:=HT.out
    rw[←HL.out,List.drop_length]at e
    exact e.symm
   go_wp2
   go_ret
   rw[HE.out]
   exact⟨rfl,hbel⟩
end Go.Proofs.YtgamccijegollaaGreatDoor.qh
namespace Go.Proofs.YtgamccijegollaaGreatDoor.BI
open Go.RowKit Base
def enc (l:List Int):List UInt8:=l.flatMap Lib.encodeRune
theorem ac9 (r:Int):Lib.runeCells r=ah (Lib.encodeRune r):=(Lib.byteCells_encodeRune r).symm
theorem rM (l:List Int) (r:Int):enc (l++[r])=enc l++Lib.encodeRune r:=by simp[enc]
theorem Jy (r:Int):1≤(Lib.encodeRune r).length∧(Lib.encodeRune r).length≤4:=by
 have:=Lib.runeCells_le r
 rw[Lib.runeCells_length]at this
 exact this
theorem iW (l:List Int):(enc l).length≤4*l.length∧l.length≤(enc l).length:=by
 induction l with
 |nil=>simp[enc]
 |cons r l ih=>
  have h:=Jy r
  have e:enc (r::l)=Lib.encodeRune r++enc l:=by simp[enc]
  rw[e,List.length_append,List.length_cons]
  omega
def agX (r:Int):Prop:= -2147483648≤r∧r≤2147483647
theorem eF (A:Option Addr) (n cap:Nat) (l:List Int) (w:World) (h:aY w A n (gV .i32 l)) (hr:∀r ∈ l,agX r) (hm:n≤1073741824):
  Calls Tryz.prog 58 #[.slice A n cap] w fun e w'=>∃v,e=.returned v∧w'.ownsRow w.heap.size 5 1 v (enc l).length (ah (enc l))∧Below w.heap.size w w':=by
 have hl:l.length=n:=by rw[←jA .i32];exact h.1
 have HL:=hid hl
 clear hl
 have HH:=hid h
 clear h
 have HR:=hid hr
 clear hr
 go_enter Tryz.func58,Tryz.ntmps58
 go_wp2
 go_loopw [3,8] (fun v vk wr=>∃(k:Nat),k≤n∧vk=.int .i64 k∧wr.ownsRow w.heap.size 5 1 v (enc (l.take k)).length (ah (enc (l.take k)))∧Below w.heap.size w wr) (fun _ vk _=>n - (intOf vk).toNat)
 case atStart=>exact⟨0,Nat.zero_le _,rfl,World.ownsRow_nil _ _ _ _,Below.refl _ _⟩
 case round =>
  obtain⟨k,hk,rfl,hown,hbel⟩:=hrel
  by_cases hlt:k<n
  ·obtain ⟨b,off,rfl,hb,_⟩:=(HH.out).spot (by omega)
   obtain⟨r,hx⟩:∃r,r=l[k]'(by rw[HL.out];exact hlt):=⟨_,rfl⟩
   have hcell:wr.cell? ⟨b,off+k,none⟩=some (.int .i32 r):=by
    rw[hx,←HH.out.int k (by rw[HL.out];exact hlt)]
    exact hbel.cell (p:=⟨b,off+k,none⟩) hb
   have hRr:agX r:=by rw[hx];exact HR.out _ (List.getElem_mem _)
   obtain⟨hr1,hr2⟩:=hRr
   have HS:Hid (l.take (k+1)=l.take k++[r]):=by
    rw[hx]
    exact List.take_succ_eq_append_getElem (by rw[HL.out];exact hlt)
   clear hx
   have hle:=(iW (l.take k)).1
   have hle2:(l.take k).length≤k:=List.length_take_le _ _
   obtain⟨m,hmm⟩:∃m,m=(enc (l.take k)).length:=⟨_,rfl⟩
   rw[←hmm]at hle hown
   have HM:=hid hmm
   clear hmm
   go_wp2_with fail
   refine(Tryz.utf8_AppendRune_plain w.heap.size _ _ _ r hr1 hr2 _ hown (by omega) hbel.size).mono ?_
   rintro e w1 ⟨v',rfl,hown1,o,hg⟩
   have gW:Below w.heap.size w w1:=(hbel.alloc hbel.size o).grown hg (by have:=hbel.size;simp;omega) (fun g hg=>(hown.lt g hg).1)
   clear hown hbel
   go_wp2
   go_roundw
   case rel=>exact⟨k+1,by omega,by go_num,by
     rw[HS.out,rM,List.length_append,aS,←ac9,←Lib.runeCells_length,←HM.out]
     exact hown1,gW⟩
   case measure=>simp[intOf];omega
  ·obtain rfl:k=n:=by omega
   have HE:Hid (l.take k=l):=by
    rw[←HL.out];exact List.take_length
   go_wp2
   go_ret
   exact⟨_,rfl,by rw[HE.out]at hown;exact hown,hbel⟩
end Go.Proofs.YtgamccijegollaaGreatDoor.BI
