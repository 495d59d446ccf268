/- Texts that belong together: sU, yx, Pbx. -/
import Derived.Test.YtmpeaoacaecgpaaGreatDoorYAL
import Derived.Test.YtmpeaoacaecgpaaGreatDoorYAG
import Derived.Test.YtmpeaoacaecgpaaGreatDoorYAK
set_option linter.unusedSimpArgs false
set_option linter.unusedVariables false
set_option maxRecDepth 100000
set_option maxHeartbeats 64000000
namespace Go.Proofs.YtmpeaoacaecgpaaGreatDoor.sU
open Go.RowKit Base Base2 cO oO jQ HstP Zo WJ pO
theorem bY {w w':World} (h:Tab.Pow w) (hb:Below w.heap.size w w'):Tab.Pow w':=Tab.Pow.below h hb
theorem Vz (L:List UInt8):(lower L).length=L.length:=by simp[lower]
theorem UD {L:List UInt8} (h:oks true L=false):HV (SL L)=.tuple #[.string (strOf []),.bool false]:=by unfold SL;rw[h];rfl
theorem acI {L:List UInt8} (h:oks true L=true):HV (SL L)=HV (XB (lower L)):=by unfold SL;rw[if_pos h]
theorem adn (s:ByteArray) (w:World) (hs:s.size≤900000) (hT:Tab.Pow w) (hM:Max w):Calls Tryz.prog 289 #[.string s] w fun e w'=>e=.returned (HV (SL s.data.toList))∧Below w.heap.size w w':=by
 have HT:=hid hT
 have HM:=hid hM
 have hl:s.data.toList.length=s.size:=Array.length_toList
 have HL:=hid hl
 obtain⟨H,hH⟩:∃H,H=HV (SL s.data.toList):=⟨_,rfl⟩
 rw[←hH]
 have HH:=hid hH
 have Zh:=hid hs
 clear hT hM hl hH
 go_enter Tryz.func289,Tryz.ntmps289
 go_wp2
 go_loopw [4] (fun vk wr=>∃k:Nat,k≤s.size∧vk=.int .i64 (k:Int)∧wr=w∧Hid (oks true (s.data.toList.take k)=true)) (fun vk _=>s.size - (intOf vk).toNat)
 case atStart=>exact⟨0,Nat.zero_le _,rfl,rfl,rfl⟩
 case round =>
  obtain⟨k,hk,rfl,rfl,HO⟩:=hrel
  by_cases hlt:k<s.size
  ·obtain ⟨c,hc⟩:∃c,s[k]=c:=⟨_,rfl⟩
   have hkl:k<s.data.toList.length:=by rw[HL.out];exact hlt
   have hcl:s.data.toList[k]=c:=hc
   by_cases h126:(126:Int)<(c.toNat:Int)
   ·have HE:Hid (H=.tuple #[.string (strOf []),.bool false]):=by
     show _=_
     rw[HH.out]
     refine UD (GU true _ k hkl ?_)
     rw[hcl,vM,decide_eq_false (by omega),Bool.and_false]
    clear hkl hcl
    go_wp2
    go_ret2
    exact⟨by rw[HE.out];rfl,Below.refl _ _⟩
   cases hf:JU true c with
   |true=>
    have HE:Hid (H=.tuple #[.string (strOf []),.bool false]):=by
     show _=_
     rw[HH.out]
     refine UD (GU true _ k hkl ?_)
     rw[hcl,vM,hf]
     rfl
    have hfc:=fun w=>qV c true w
    rw[hf]at hfc
    have HF:=hid hfc
    clear hkl hcl hf hfc
    go_wp2_with fail
    refine(HF.out _).mono ?_
    rintro e w2 ⟨rfl,rfl⟩
    go_wp2
    go_ret2
    exact⟨by rw[HE.out];rfl,Below.refl _ _⟩
   |false=>
    have HN:Hid (oks true (s.data.toList.take (k+1))=true):=by
     show _=_
     rw[qX true _ k hkl,HO.out,hcl,vM,hf,decide_eq_true (by omega)]
     rfl
    have hfc:=fun w=>qV c true w
    rw[hf]at hfc
    have HF:=hid hfc
    clear hkl hcl hf hfc
    go_wp2_with fail
    refine(HF.out _).mono ?_
    rintro e w2 ⟨rfl,rfl⟩
    go_wp2
    go_roundw
    case rel=>exact⟨k+1,by omega,by go_num,by first|rfl|trivial,HN.out⟩
    case measure=>simp[intOf];omega
  have hO:oks true s.data.toList=true:=by
   have:=HO.out
   rw[List.take_of_length_le (by rw[HL.out];omega)]at this
   exact this
  have hH2:H=HV (XB (lower s.data.toList)):=by rw[HH.out];exact acI hO
  obtain⟨M,hM⟩:∃M:ByteArray,M=strOf (lower s.data.toList):=⟨_,rfl⟩
  have XJ:lower s.data.toList=M.data.toList:=by rw[hM];rfl
  have hMs:M.size≤900000:=by rw[hM,size_strOf,Vz,HL.out];omega
  have Tf:Hid (∀w:World,Calls Tryz.prog 112 #[.string s] w fun e w'=>e=.returned (.string M)∧Below w.heap.size w w'):=by
   show ∀w,_
   rw[hM]
   exact fun w=>cO.gI s w (by unfold maxLen;omega)
  rw[XJ]at hH2
  have hend:=fun w=>acO.aln M w hMs
  clear hM XJ hO HO HH
  cases he:ends M.data.toList with
  |false=>
   rw[he]at hend
   have F6:=hid hend
   by_cases hM0:M.data.toList=[]
   ·have hM1:M=strOf []:=by rw[←aG M,hM0]
    have HE:Hid (H=.tuple #[.string (strOf []),.bool false]):=by show _=_;rw[hH2,hM0];rfl
    have hq:M.toList=[]:=by rw[Lib.toList_data];exact hM0
    have hq2:(M.toList==[])=true:=by rw[hq];rfl
    have HM1:=hid hM1
    clear hend he hM0 hM1 hH2 hq
    go_wp2_with fail
    refine(Tf.out _).mono ?_
    rintro e w2 ⟨rfl,hb2⟩
    have HB2:=hid hb2
    clear hb2
    go_wp2_with fail
    refine(F6.out _).mono ?_
    rintro e w3 ⟨rfl,hb3⟩
    have HB3:=hid (bel HB2.out hb3)
    clear hb3
    go_wp2
    go_ret2
    exact⟨by rw[HE.out,←HM1.out];first|rfl|simp[hq2],HB3.out⟩
   have HE:Hid (H=.tuple #[.string M,.bool true]):=by
    show _=_
    rw[hH2]
    unfold XB
    rw[if_neg hM0,he,if_neg (by simp)]
    show Value.tuple #[.string (strOf M.data.toList),.bool true]=_
    rw[aG]
   have hq:(M.toList==[])=false:=by
    rw[Lib.toList_data,beq_eq_false_iff_ne]
    exact hM0
   have hq2:M.toList.isEmpty=false:=by rw[Lib.toList_data];simpa using hM0
   clear hend he hM0 hH2
   go_wp2_with fail
   refine(Tf.out _).mono ?_
   rintro e w2 ⟨rfl,hb2⟩
   have HB2:=hid hb2
   clear hb2
   go_wp2_with fail
   refine(F6.out _).mono ?_
   rintro e w3 ⟨rfl,hb3⟩
   have HB3:=hid (bel HB2.out hb3)
   clear hb3
   go_wp2
   go_ret2
   exact⟨by rw[HE.out];rfl,HB3.out⟩
  | true=>
   rw[he]at hend
   have F6:=hid hend
   have hM0:M.data.toList≠[]:=by intro h;rw[h]at he;cases he
   have hH3:H=HV ((NR M.data.toList).map Gl.pr):=by rw[hH2];unfold XB;rw[if_neg hM0,he,if_pos rfl]
   have hpa:=fun w hM=>BH.parse_any M w hMs hM
   clear hend he hM0 hH2
   cases hp:NR M.data.toList with
   |none=>
    rw[hp]at hpa hH3
    have HE:Hid (H=.tuple #[.string (strOf []),.bool false]):=by show _=_;rw[hH3];rfl
    have uQ:Hid (BH.oN none=.tuple #[.int .u32 0,.bool false]):=BH.dh _ rfl
    rw[uQ.out]at hpa
    have HP:=hid hpa
    clear hpa hH3 hp
    go_wp2_with fail
    refine(Tf.out _).mono ?_
    rintro e w2 ⟨rfl,hb2⟩
    have HB2:=hid hb2
    clear hb2
    go_wp2_with fail
    refine(F6.out _).mono ?_
    rintro e w3 ⟨rfl,hb3⟩
    have HB3:=hid (bel HB2.out hb3)
    clear hb3
    go_wp2_with fail
    refine(HP.out _ (HM.out.below HB3.out)).mono ?_
    rintro e w4 ⟨rfl,hb4⟩
    have HB4:=hid (bel HB3.out hb4)
    clear hb4
    go_wp2
    go_ret2
    exact⟨by rw[HE.out];rfl,HB4.out⟩
   |some n=>
    have hn:=Ri hp
    rw[hp]at hpa hH3
    obtain⟨R,hR⟩:∃R:ByteArray,R=strOf (Gl.pr n):=⟨_,rfl⟩
    have HE:Hid (H=.tuple #[.string R,.bool true]):=by show _=_;rw[hH3,hR];rfl
    have uQ:Hid (BH.oN (some n)=.tuple #[.int .u32 (n:Int),.bool true]):=BH.yX _ n rfl
    rw[uQ.out]at hpa
    have HP:=hid hpa
    have UA:Hid (∀w,Tab.Pow w→Calls Tryz.prog 327 #[.int .u32 (n:Int)] w fun e w'=>e=.returned (.string R)∧Below w.heap.size w w'):=by
     show ∀w,_
     rw[hR]
     exact fun w hT=>Gl.print_any n hn w hT
    clear hpa hH3 hp hn hR
    go_wp2_with fail
    refine(Tf.out _).mono ?_
    rintro e w2 ⟨rfl,hb2⟩
    have HB2:=hid hb2
    clear hb2
    go_wp2_with fail
    refine(F6.out _).mono ?_
    rintro e w3 ⟨rfl,hb3⟩
    have HB3:=hid (bel HB2.out hb3)
    clear hb3
    go_wp2_with fail
    refine(HP.out _ (HM.out.below HB3.out)).mono ?_
    rintro e w4 ⟨rfl,hb4⟩
    have HB4:=hid (bel HB3.out hb4)
    clear hb4
    go_wp2_with fail
    refine(UA.out _ (bY HT.out HB4.out)).mono ?_
    rintro e w5 ⟨rfl,hb5⟩
    have iG:=hid (bel HB4.out hb5)
    clear hb5
    go_wp2
    go_ret2
    exact⟨by rw[HE.out];rfl,iG.out⟩
theorem aav (L:List UInt8):Lib.hasPrefix L [91]=decide (L.head?=some 91):=by
 cases L with
 |nil=>rfl
 |cons c r=>
  unfold Lib.hasPrefix
  by_cases h:c=91
  ·subst h;simp[List.isPrefixOf]
  have h2:¬(91:UInt8)=c:=fun e=>h e.symm
  simp[List.isPrefixOf,h,h2]
theorem parse_any (s:ByteArray) (sp:Bool) (w:World) (hs:s.size≤900000) (hL:oI w) (hT:Tab.Pow w) (hM:Max w):Calls Tryz.prog 230 #[.string s,.bool sp] w fun e w'=>e=.returned (HV (hst s.data.toList sp))∧Below w.heap.size w w':=by
 have HL:=hid hL
 have HT:=hid hT
 have HM:=hid hM
 have hl:s.data.toList.length=s.size:=Array.length_toList
 have pY:=hid hl
 have hpx:=fun w=>Tryz.strings_HasPrefix s ⟨#[91]⟩ w
 rw[show(⟨#[91]⟩:ByteArray).data.toList=[91]from rfl,aav]at hpx
 obtain⟨H,hH⟩:∃H,H=HV (hst s.data.toList sp):=⟨_,rfl⟩
 rw[←hH]
 have Zh:=hid hs
 clear hL hT hM hl
 by_cases hh:s.data.toList.head?=some 91
 ·have hH2:H=HV (hbr s.data.toList.tail):=by rw[hH];unfold hst;rw[if_pos hh]
  rw[decide_eq_true hh]at hpx
  have HPX:=hid hpx
  have h1:1≤s.size:=by
   rw[←pY.out]
   cases e:s.data.toList with
   |nil=>rw[e]at hh;cases hh
   |cons a r=>simp
  have hX:(s.extract 1 s.size).data.toList=s.data.toList.tail:=by rw[SixE.Ey,List.drop_one]
  obtain⟨X,hXe⟩:∃X,X=s.extract 1 s.size:=⟨_,rfl⟩
  have hXs:X.size≤1048576:=by rw[hXe,ByteArray.size_extract];omega
  rw[←hXe]at hX
  rw[←hX]at hH2
  have HAD:=hid (fun w hL hM=>ZI X w hXs hL hM)
  obtain⟨a,b,hab⟩:∃a b,HV (hbr X.data.toList)=.tuple #[a,b]:=by
   cases hbr X.data.toList with
   |none=>exact⟨_,_,rfl⟩
   |some L=>exact⟨_,_,rfl⟩
  have HAB:=hid hab
  have HE:=hid (hH2.trans hab)
  have h1i:(1:Int)≤(s.size:Int):=by omega
  have HXE:=hid hXe
  clear hpx hh hH hH2 hX hXs hab hs hXe
  go_enter Tryz.func230,Tryz.ntmps230
  go_wp2_with fail
  refine(HPX.out _).mono ?_
  rintro e w2 ⟨rfl,hww⟩
  obtain rfl:w=w2:=hww.symm
  go_wp2_with fail
  rw[←HXE.out]
  refine(HAD.out _ HL.out HM.out).mono ?_
  rintro e w3 ⟨rfl,hb3⟩
  rw[HAB.out]
  have HB3:=hid hb3
  clear hb3
  go_wp2
  go_ret2
  exact⟨by rw[HE.out];rfl,HB3.out⟩
 rw[decide_eq_false hh]at hpx
 have HPX:=hid hpx
 cases sp with
 |true=>
  have hH2:H=HV (SL (fU.dec s.data.toList)):=by rw[hH];unfold hst;rw[if_neg hh,if_pos rfl]
  obtain⟨X,hX⟩:∃X:ByteArray,X=strOf (fU.dec s.data.toList):=⟨_,rfl⟩
  have NQ:X.data.toList=fU.dec s.data.toList:=by rw[hX];rfl
  have hXs:X.size≤900000:=by
   rw[hX,size_strOf]
   have:=fU.ku s.data.toList
   rw[pY.out]at this
   omega
  have Y6:=hid (fun w=>fU.decode_any s w (by omega))
  rw[←NQ]at Y6
  rw[←NQ]at hH2
  have HDO:=hid (fun w hT hM=>adn X w hXs hT hM)
  obtain⟨a,b,hab⟩:∃a b,HV (SL X.data.toList)=.tuple #[a,b]:=by
   cases SL X.data.toList with
   |none=>exact⟨_,_,rfl⟩
   |some L=>exact⟨_,_,rfl⟩
  have HAB:=hid hab
  have HE:=hid (hH2.trans hab)
  clear hpx hh hH hH2 hX NQ hXs hab hs
  go_enter Tryz.func230,Tryz.ntmps230
  go_wp2_with fail
  refine(HPX.out _).mono ?_
  rintro e w2 ⟨rfl,hww⟩
  obtain rfl:w=w2:=hww.symm
  go_wp2_with fail
  refine(Y6.out _).mono ?_
  rintro e w3 ⟨v,rfl,hown,hb3⟩
  obtain⟨A3,c3,rfl,_,_,hrd3⟩:=aJ hown
  have hs3:(convert 45 9 (.slice A3 X.size c3)).run Tryz.prog w3=.ok (.string X) w3:=by
   have h:=aF (P:=Tryz.prog) 45 9 5 Tryz.underlying45 Tryz.underlying5 Tryz.underlying9 _ c3 hrd3
   rw[aG]at h
   exact h
  have HB3:=hid hb3
  clear hb3 hown hrd3
  go_wp2_with fail
  clear hs3
  refine(HDO.out _ (bY HT.out HB3.out) (HM.out.below HB3.out)).mono ?_
  rintro e w4 ⟨rfl,hb4⟩
  rw[HAB.out]
  have HB4:=hid (bel HB3.out hb4)
  clear hb4
  go_wp2
  go_ret2
  exact⟨by rw[HE.out];rfl,HB4.out⟩
 | false=>
  have HH:Hid (H=HV (zA s.data.toList)):=by show _=_;rw[hH];unfold hst;rw[if_neg hh,if_neg (by simp)]
  clear hpx hh hH
  go_enter Tryz.func230,Tryz.ntmps230
  go_wp2_with fail
  refine(HPX.out _).mono ?_
  rintro e w2 ⟨rfl,hww⟩
  obtain rfl:w=w2:=hww.symm
  go_wp2
  go_loopw [6] (fun vk wr=>∃k:Nat,k≤s.size∧vk=.int .i64 (k:Int)∧wr=w∧Hid (oks false (s.data.toList.take k)=true)) (fun vk _=>s.size - (intOf vk).toNat)
  case atStart=>exact⟨0,Nat.zero_le _,rfl,rfl,rfl⟩
  case round =>
   obtain⟨k,hk,rfl,rfl,HO⟩:=hrel
   by_cases hlt:k<s.size
   ·obtain ⟨c,hc⟩:∃c,s[k]=c:=⟨_,rfl⟩
    have hkl:k<s.data.toList.length:=by rw[pY.out];exact hlt
    have hcl:s.data.toList[k]=c:=hc
    cases hf:JU false c with
    |true=>
     have HE:Hid (H=.tuple #[.string (strOf []),.bool false]):=by
      show _=_
      rw[HH.out]
      unfold zA
      rw[GU false _ k hkl (by rw[hcl];unfold okb;rw[hf];rfl)]
      rfl
     have hfc:=fun w=>qV c false w
     rw[hf]at hfc
     have HF:=hid hfc
     clear hkl hcl hf hfc
     go_wp2_with fail
     refine(HF.out _).mono ?_
     rintro e w2 ⟨rfl,rfl⟩
     go_wp2
     go_ret2
     exact⟨by rw[HE.out];rfl,Below.refl _ _⟩
    |false=>
     have HN:Hid (oks false (s.data.toList.take (k+1))=true):=by
      show _=_
      rw[qX false _ k hkl,HO.out,hcl]
      unfold okb
      rw[hf]
      rfl
     have hfc:=fun w=>qV c false w
     rw[hf]at hfc
     have HF:=hid hfc
     clear hkl hcl hf hfc
     go_wp2_with fail
     refine(HF.out _).mono ?_
     rintro e w2 ⟨rfl,rfl⟩
     go_wp2
     go_roundw
     case rel=>exact⟨k+1,by omega,by go_num,by first|rfl|trivial,HN.out⟩
     case measure=>simp[intOf];omega
   have hO:oks false s.data.toList=true:=by
    have:=HO.out
    rw[List.take_of_length_le (by rw[pY.out];omega)]at this
    exact this
   obtain⟨R,hR⟩:∃R:ByteArray,R=strOf (EscE.enc 0 s.data.toList):=⟨_,rfl⟩
   have HE:Hid (H=.tuple #[.string R,.bool true]):=by
    show _=_
    rw[HH.out]
    unfold zA
    rw[if_pos hO,hR]
    rfl
   have HR:=hid hR
   have hcv:=fun(w:World) s=>run_bytes_of_string (P:=Tryz.prog) w 9 45 5 s Tryz.underlying9 Tryz.underlying45 Tryz.underlying5
   clear hO HO HH hR
   go_wp2_with fail
   clear hcv
   refine(EscE.eF 0 _ _ _ s.data.toList _ (fV s _ wr _) (by omega)).mono ?_
   rintro e w3 ⟨rfl,hb3⟩
   rw[←HR.out]
   go_wp2
   go_ret2
   exact⟨by rw[HE.out];rfl,bel (((Below.refl wr.heap.size wr).alloc (Nat.le_refl _) _).drew) hb3⟩
end Go.Proofs.YtmpeaoacaecgpaaGreatDoor.sU
namespace Go.Proofs.YtmpeaoacaecgpaaGreatDoor.yx
open Go.RowKit Base Regs Base2 dI cO PthG PthH PthJ UrlA jQ HstP Zo WJ sU pO PrsP yw tN Fp mW tK
def FW (S x y V D:List UInt8):Option U:=
 if (hap false V).2.2=true∧(hap false V).1=[]then none else
 match hst (hap false V).1 (special S),prt S (hap false V).2.1 with
 |some H,some p=>some {U0 with au:=S,usr:=x,pwd:=y,hst:=H,hh:=true,port:=p,aO:=rooted S D}
 |_,_=>none
theorem ag6 (S T:List UInt8):authority S T=if (jL (T.take (upto (special S) T))).2.2.2=true∧(jL (T.take (upto (special S) T))).2.2.1=[]then none else FW S (jL (T.take (upto (special S) T))).1 (jL (T.take (upto (special S) T))).2.1 (jL (T.take (upto (special S) T))).2.2.1 (T.drop (upto (special S) T)):=rfl
theorem EX {o:Option Int} {e:Ending} (h:PrtV o e):∃z b,e=.returned (.tuple #[.int .i64 z,.bool b])∧(o=some z∧b=true∨o=none∧b=false):=by
 cases o with
 |some z=>exact⟨z,true,h,.inl ⟨rfl,rfl⟩⟩
 |none=>obtain⟨z,hz⟩:=h;exact⟨z,false,hz,.inr ⟨rfl,rfl⟩⟩
theorem dW {L:List UInt8} {n:Nat} (h:L.length≤n):(strOf L).size≤n:=by rw[size_strOf];exact h
theorem aK (L:List UInt8):(strOf L).toList=L:=by rw[Lib.toList_data];rfl
theorem kH {w w':World} {o:Option U} (ho:o=none) (hb:Below w.heap.size w w'):mO w o (.returned (.tuple #[.agg (cells U0 (.slice none 0 0)),.bool false])) w':=
 ⟨hb,U0,none,0,0,false,rfl,wY _ _ rfl,.inr ⟨ho,rfl,rfl⟩⟩
theorem eH {w w':World} {o:Option U} {u:U} {A:Option Addr} {n c:Nat} (ho:o=some u) (hb:Below w.heap.size w w') (hp:Own w w' u A n c):mO w o (.returned (.tuple #[.agg (cells u (.slice A n c)),.bool true])) w':=
 ⟨hb,u,A,n,c,true,rfl,hp,.inl ⟨ho,rfl⟩⟩
theorem rH (b:UInt8):∀L:List UInt8,(fG b L).1.length≤L.length∧(fG b L).2.1.length≤L.length
 |[]=>by simp[fG]
 |c::L=>by
  have h:=rH b L
  unfold fG
  split
  ·simp
  ·simp only[List.length_cons]
   omega
theorem qP (S T:List UInt8) (w:World) (hs:T.length≤900000) (hL:oI w) (hT:Tab.Pow w) (hM:Max w):Calls Tryz.prog 116 #[.string (strOf S),.string (strOf T)] w (mO w (authority S T)):=by
 obtain⟨O,hO⟩:∃O,O=authority S T:=⟨_,rfl⟩
 rw[←hO]
 rw[ag6]at hO
 obtain⟨X,hX⟩:∃X,X=T.take (upto (special S) T):=⟨_,rfl⟩
 obtain⟨D,hD⟩:∃D,D=T.drop (upto (special S) T):=⟨_,rfl⟩
 have hXl:X.length≤900000:=by rw[hX,List.length_take];omega
 have hDl:D.length≤900000:=by rw[hD,List.length_drop];omega
 have hU:∀w:World,Calls Tryz.prog 227 #[.string (strOf S),.string (strOf T)] w fun e w'=>e=.returned (.tuple #[.string (strOf X),.string (strOf D)])∧Below w.heap.size w w':=fun w=>by rw[hX,hD];exact Ws (strOf S) (strOf T) w (dW (by omega))
 rw[←hX,←hD]at hO
 have hLa:∀w:World,Calls Tryz.prog 228 #[.string (strOf X),.int .u8 64] w fun e w'=>e=.returned (.int .i64 (Lib.lastIndexByte (strOf X) 64))∧w'=w:=fun w=>Tryz.strings_LastIndexByte (strOf X) 64 w (by rw[size_strOf];omega)
 have hsp:∀w:World,Calls Tryz.prog 114 #[.string (strOf S)] w fun e w'=>e=.returned (.bool (special S))∧w'=w:=fun w=>jv (strOf S) w
 have hrt:∀w:World,Calls Tryz.prog 226 #[.string (strOf S),.string (strOf D)] w (lu w.heap.size w (rooted S D)):=fun w=>AA (strOf S) (strOf D) w (dW hDl)
 have HU:=hid hU
 have wC:=hid hsp
 have UC:=hid hrt
 have HL:=hid hL
 have HT:=hid hT
 have HM:=hid hM
 clear hU hsp hrt hL hT hM hX hD hDl hs
 have hls:=ahT (strOf X)
 rw[show(strOf X).data.toList=X from rfl]at hls
 obtain⟨zl,hzl⟩:∃z,z=Lib.lastIndexByte (strOf X) 64:=⟨_,rfl⟩
 rw[←hzl]at hLa hls
 have Uy:=hid hLa
 have HO0:=hid hO
 clear hLa hzl hO
 go_enter Tryz.func116,Tryz.ntmps116
 go_upto_region 1 with(fail)
 generalize hw:World.alloc w _=w1
 have h1:UB w1 (w.heap.size) (U0) (.slice none 0 0)∧Below w.heap.size w w1:=by
  subst hw
  exact laid1 w _ _
 clear hw
 have bP:Hid (w.heap.size≤w.heap.size):=(Below.refl w.heap.size w).size
 have bM:=hid (bel (Below.refl w.heap.size w) h1.2)
 have aW:=hid h1.1
 clear h1
 go_wp2_with fail
 refine(HU.out _).mono ?_
 rintro e w2 ⟨rfl,hbx⟩
 have bK:=hid (aW.out.below hbx)
 have eX:=hid (bel bM.out hbx)
 clear aW bM
 clear hbx
 go_upto_region 3 with(fail)
 generalize hw:World.alloc w2 _=w3
 have h1:UB w3 (w2.heap.size) ({U0 with au:=S,hh:=true}) (.slice none 0 0)∧Below w2.heap.size w2 w3:=by
  subst hw
  exact laid1 w2 _ _
 clear hw
 have hlr:=bK.out.lt
 have aX:Hid (w.heap.size≠w2.heap.size):=by show _≠_;omega
 have nO:Hid (w2.heap.size≠w.heap.size):=by show _≠_;omega
 clear hlr
 have fK:Hid (w.heap.size≤w2.heap.size):=eX.out.size
 have bD:=hid (bK.out.below h1.2)
 have cZ:=hid (bel eX.out h1.2)
 have eY:=hid h1.1
 clear bK eX
 clear h1
 go_wp2_with fail
 refine(Uy.out _).mono ?_
 rintro e wx ⟨rfl,hwx⟩
 obtain rfl:w3=wx:=by first|exact hwx|exact hwx.symm
 clear hwx
 rcases hls with⟨rfl,hl⟩|⟨k,hk,rfl,hl⟩
 ·
  obtain⟨V,hV⟩:∃V,V=X:=⟨_,rfl⟩
  have HOT:Hid (O=FW S [] [] V D):=by show _=_;rw[HO0.out,show jL X=([],[],X,false)by unfold jL;rw[hl],hV];rfl
  have hVl:V.length≤900000:=by rw[hV];exact hXl
  rw[←hV]
  clear HO0 hl hXl HU Uy
  subst hV
  obtain⟨H1,H2,c,hh⟩:∃H1 H2 c,hap false V=(H1,H2,c):=⟨_,_,_,rfl⟩
  have hl1:=(EJ V false).1
  have hl2:=(EJ V false).2
  rw[hh]at hl1 hl2
  simp only at hl1 hl2
  have hhp:∀w:World,Calls Tryz.prog 229 #[.string (strOf V)] w fun e w'=>e=.returned (.tuple #[.string (strOf H1),.string (strOf H2),.bool c])∧Below w.heap.size w w':=fun w=>by
   have h:=Bq (strOf V) w (dW (by omega))
   rw[show(strOf V).data.toList=V from rfl,hh]at h
   exact h
  have HHP:=hid hhp
  have hO2:O=if c=true∧H1=[]then none else match hst H1 (special S),prt S H2 with|some H,some p=>some {U0 with au:=S,usr:=[],pwd:=[],hst:=H,hh:=true,port:=p,aO:=rooted S D}|_,_=>none:=by
   rw[HOT.out];unfold FW;rw[hh];first|done|rfl
  have hH:∀w:World,oI w→Tab.Pow w→Max w→Calls Tryz.prog 230 #[.string (strOf H1),.bool (special S)] w fun e w'=>e=.returned (HV (hst H1 (special S)))∧Below w.heap.size w w':=fun w a b d=>sU.parse_any (strOf H1) (special S) w (dW (by omega)) a b d
  have hPo:∀w:World,Calls Tryz.prog 231 #[.string (strOf S),.string (strOf H2)] w fun e w'=>PrtV (prt S H2) e∧w'=w:=fun w=>aa4 (strOf S) (strOf H2) w (dW (by omega))
  have HH:=hid hH
  have HPO:=hid hPo
  have jy:=hid hO2
  clear hhp hl1 hl2 hh hH hPo HOT hO2
  go_wp2_with fail
  refine(HHP.out _).mono ?_
  rintro e w4 ⟨rfl,hbx⟩
  have bF:=hid (bD.out.below hbx)
  have bV:=hid (eY.out.below hbx)
  have dD:=hid (bel cZ.out hbx)
  clear bD eY cZ
  clear hbx
  cases c
  focus
   have iV:Hid (O=match hst H1 (special S),prt S H2 with|some H,some p=>some {U0 with au:=S,usr:=[],pwd:=[],hst:=H,hh:=true,port:=p,aO:=rooted S D}|_,_=>none):=by show _=_;rw[jy.out,if_neg (by simp)]
   clear jy
   go_wp2_with fail
   refine(wC.out _).mono ?_
   rintro e wx ⟨rfl,hwx⟩
   obtain rfl:w4=wx:=by first|exact hwx|exact hwx.symm
   clear hwx
  rotate_left
  focus
   by_cases h0:H1=[]
   ·
    have qc:Hid (O=none):=by show _=_;rw[jy.out,if_pos ⟨rfl,h0⟩]
    have q0:((strOf H1).toList==[])=true:=by rw[aK,h0];rfl
    have q1:(strOf H1).toList=[]:=by rw[aK,h0]
    clear jy h0
    go_wp2_with (refine aC bF.out U0 none 0 0 (.tmp 4) (.tmp 64) rfl rfl rfl rfl ?_)
    try simp only[Exit.inBlock,Exit.then]
    exact bodyPost_ret (w:=World.setRow w4 w.heap.size (cells U0 (.slice none 0 0))) (res2 (u:=U0) (p:=.slice none 0 0) rfl (bF.out.row U0 _) false _ rfl rfl) rfl (kH qc.out (below_setRow dD.out bP.out _))
   have iV:Hid (O=match hst H1 (special S),prt S H2 with|some H,some p=>some {U0 with au:=S,usr:=[],pwd:=[],hst:=H,hh:=true,port:=p,aO:=rooted S D}|_,_=>none):=by show _=_;rw[jy.out,if_neg (fun h=>h0 h.2)]
   have q0:((strOf H1).toList==[])=false:=by rw[aK,beq_eq_false_iff_ne];exact h0
   have q1:¬(strOf H1).toList=[]:=by rw[aK];exact h0
   have q2:(strOf H1).toList.isEmpty=false:=by rw[aK];simpa using h0
   clear jy h0
   go_wp2_with fail
   refine(wC.out _).mono ?_
   rintro e wx ⟨rfl,hwx⟩
   obtain rfl:w4=wx:=by first|exact hwx|exact hwx.symm
   clear hwx
  rotate_left
  all_goals
   cases hx:hst H1 (special S)with
   |none=>
    have qc:Hid (O=none):=by show _=_;rw[iV.out,hx]
    rw[hx]at HH
    clear hx
    go_wp2_with fail
    refine(HH.out _ (HL.out.below dD.out) (bY HT.out dD.out) (HM.out.below dD.out)).mono ?_
    rintro e w5 ⟨rfl,hbx⟩
    have bH:=hid (bF.out.below hbx)
    have bJ:=hid (bV.out.below hbx)
    have fC:=hid (bel dD.out hbx)
    clear bF bV dD
    clear hbx
    rw[show HV none=.tuple #[.string (strOf []),.bool false]from rfl]
    have cx:=bJ.out.facts.2.2.2.1
    have fx:=bJ.out.thaw.2.2.2.1
    go_upto_region 16 with(fail)
    have hxr:=bH.out.set (k:=w2.heap.size) (i:=3) (.string (strOf [])) (aX.out)
    have hxu:=bJ.out.hst []
    have hb:=fC.out.setCell (p:=⟨w2.heap.size,3,none⟩) (fK.out) (.string (strOf []))
    clear bH bJ fC
    clear cx fx
    generalize World.setCell w5 _ _=w6 at hxr hxu hb⊢
    have bT:Hid (UB w6 (w.heap.size) (U0) (.slice none 0 0)):=hxr
    clear hxr
    have bG:Hid (UB w6 (w2.heap.size) ({U0 with au:=S,usr:=[],pwd:=[],hh:=true,hst:=[]}) (.slice none 0 0)):=hxu
    clear hxu
    have gq:=hid hb
    clear hb
    go_wp2_with fail
    refine(HPO.out _).mono ?_
    rintro e wx ⟨hv,hwx⟩
    obtain rfl:w6=wx:=hwx.symm
    clear hwx
    obtain⟨z,ok,rfl,hzo⟩:=EX hv
    clear hv
    have cx:=bG.out.facts.2.2.2.2.2.1
    have fx:=bG.out.thaw.2.2.2.2.2.1
    go_upto_region 17 with(fail)
    have hxr:=bT.out.set (k:=w2.heap.size) (i:=5) (.int .i64 z) (aX.out)
    have hxu:=bG.out.port z
    have hb:=gq.out.setCell (p:=⟨w2.heap.size,5,none⟩) (fK.out) (.int .i64 z)
    clear bT bG gq
    clear cx fx
    generalize World.setCell w6 _ _=w7 at hxr hxu hb⊢
    have dQ:Hid (UB w7 (w.heap.size) (U0) (.slice none 0 0)):=hxr
    clear hxr
    have dO:Hid (UB w7 (w2.heap.size) ({U0 with au:=S,usr:=[],pwd:=[],hh:=true,hst:=[],port:=z}) (.slice none 0 0)):=hxu
    clear hxu
    have iU:=hid hb
    clear hb
    clear hzo
    go_wp2_with (refine aC dQ.out U0 none 0 0 (.tmp 4) (.tmp 86) rfl rfl rfl rfl ?_)
    try simp only[Exit.inBlock,Exit.then]
    exact bodyPost_ret (w:=World.setRow w7 w.heap.size (cells U0 (.slice none 0 0))) (res2 (u:=U0) (p:=.slice none 0 0) rfl (dQ.out.row U0 _) false _ rfl rfl) rfl (kH qc.out (below_setRow iU.out bP.out _))
   |some R=>
    have Ti:Hid (O=match prt S H2 with|some p=>some {U0 with au:=S,usr:=[],pwd:=[],hst:=R,hh:=true,port:=p,aO:=rooted S D}|none=>none):=by show _=_;rw[iV.out,hx];cases prt S H2<;>rfl
    rw[hx]at HH
    clear hx
    go_wp2_with fail
    refine(HH.out _ (HL.out.below dD.out) (bY HT.out dD.out) (HM.out.below dD.out)).mono ?_
    rintro e w5 ⟨rfl,hbx⟩
    have bH:=hid (bF.out.below hbx)
    have bJ:=hid (bV.out.below hbx)
    have fC:=hid (bel dD.out hbx)
    clear bF bV dD
    clear hbx
    rw[show HV (some R)=.tuple #[.string (strOf R),.bool true]from rfl]
    have cx:=bJ.out.facts.2.2.2.1
    have fx:=bJ.out.thaw.2.2.2.1
    go_upto_region 16 with(fail)
    have hxr:=bH.out.set (k:=w2.heap.size) (i:=3) (.string (strOf R)) (aX.out)
    have hxu:=bJ.out.hst R
    have hb:=fC.out.setCell (p:=⟨w2.heap.size,3,none⟩) (fK.out) (.string (strOf R))
    clear bH bJ fC
    clear cx fx
    generalize World.setCell w5 _ _=w6 at hxr hxu hb⊢
    have bT:Hid (UB w6 (w.heap.size) (U0) (.slice none 0 0)):=hxr
    clear hxr
    have bG:Hid (UB w6 (w2.heap.size) ({U0 with au:=S,usr:=[],pwd:=[],hh:=true,hst:=R}) (.slice none 0 0)):=hxu
    clear hxu
    have gq:=hid hb
    clear hb
    go_wp2_with fail
    refine(HPO.out _).mono ?_
    rintro e wx ⟨hv,hwx⟩
    obtain rfl:w6=wx:=hwx.symm
    clear hwx
    obtain⟨z,ok,rfl,hzo⟩:=EX hv
    clear hv
    have cx:=bG.out.facts.2.2.2.2.2.1
    have fx:=bG.out.thaw.2.2.2.2.2.1
    go_upto_region 17 with(fail)
    have hxr:=bT.out.set (k:=w2.heap.size) (i:=5) (.int .i64 z) (aX.out)
    have hxu:=bG.out.port z
    have hb:=gq.out.setCell (p:=⟨w2.heap.size,5,none⟩) (fK.out) (.int .i64 z)
    clear bT bG gq
    clear cx fx
    generalize World.setCell w6 _ _=w7 at hxr hxu hb⊢
    have dQ:Hid (UB w7 (w.heap.size) (U0) (.slice none 0 0)):=hxr
    clear hxr
    have dO:Hid (UB w7 (w2.heap.size) ({U0 with au:=S,usr:=[],pwd:=[],hh:=true,hst:=R,port:=z}) (.slice none 0 0)):=hxu
    clear hxu
    have iU:=hid hb
    clear hb
    rcases hzo with⟨hz,rfl⟩|⟨hz,rfl⟩
    ·
     have mX:Hid (O=some {U0 with au:=S,usr:=[],pwd:=[],hst:=R,hh:=true,port:=z,aO:=rooted S D}):=by show _=_;rw[Ti.out,hz]
     clear hz
     go_wp2_with fail
     refine(UC.out _).mono ?_
     rintro e w8 ⟨q,rfl,hown,hbx⟩
     obtain⟨A,c2,rfl,hq⟩:=bW (u:={U0 with aO:=rooted S D}) hown
     clear hq
     replace hown:=ay hown (Nat.le_refl _)
     have zF:Hid (w2.heap.size<w7.heap.size):=dO.out.lt
     have iy:Hid (w.heap.size<w7.heap.size):=dQ.out.lt
     have iI:=hid (dQ.out.below hbx)
     have jJ:=hid (dO.out.below hbx)
     have sS:=hid (bel iU.out hbx)
     have tC:=hid hown
     clear hown
     clear dQ dO iU
     clear hbx
     have BX:=zF.out
     have cx:=jJ.out.facts.2.2.2.2.2.2.2.2.1
     have fx:=jJ.out.thaw.2.2.2.2.2.2.2.2.1
     go_upto_region 20 with(fail)
     have hxr:=iI.out.set (k:=w2.heap.size) (i:=8) (.slice A (rooted S D).length c2) (aX.out)
     have hxu:=jJ.out.path (.slice A (rooted S D).length c2)
     have hoq:=gU.aN (w':=w8.setCell ⟨w2.heap.size,8,none⟩ (.slice A (rooted S D).length c2)) (gb:=w2.heap.size) tC.out (fun k hk=>heap_setCell_other _ _ _ _ hk) (by omega)
     have hb:=sS.out.setCell (p:=⟨w2.heap.size,8,none⟩) (fK.out) (.slice A (rooted S D).length c2)
     clear iI jJ tC sS
     clear cx fx
     generalize World.setCell w8 _ _=w9 at hxr hxu hoq hb⊢
     have Bg:Hid (UB w9 (w.heap.size) (U0) (.slice none 0 0)):=hxr
     clear hxr
     have yt:Hid (UB w9 (w2.heap.size) ({U0 with au:=S,usr:=[],pwd:=[],hh:=true,hst:=R,port:=z}) (.slice A (rooted S D).length c2)):=hxu
     clear hxu
     have HOqw9:=hid hoq
     clear hoq
     have Fe:=hid hb
     clear hb
     clear BX
     obtain⟨c0,c1,c2',c3,c4,c5,c6,c7,c8,c9,c10,c11,c12⟩:=yt.out.facts
     go_wp2_with (refine aC Bg.out {U0 with au:=S,usr:=[],pwd:=[],hh:=true,hst:=R,port:=z} A (rooted S D).length c2 (.tmp 4) (.tmp 91) rfl rfl rfl rfl ?_)
     try simp only[Exit.inBlock,Exit.then]
     have hpo:∀k,k≠w.heap.size→(World.setRow w9 (w.heap.size) (cells {U0 with au:=S,usr:=[],pwd:=[],hh:=true,hst:=R,port:=z} (.slice A (rooted S D).length c2))).heap[k]?=w9.heap[k]?:=fun k hk=>setRow_other _ _ _ _ hk
     have ho:=ay (gU.aN HOqw9.out hpo iy.out) (by have h1:=bP.out;have h2:=iy.out;omega:w.heap.size≤_)
     exact bodyPost_ret (w:=World.setRow w9 w.heap.size (cells {U0 with au:=S,usr:=[],pwd:=[],hh:=true,hst:=R,port:=z} (.slice A (rooted S D).length c2))) (res2 (u:={U0 with au:=S,usr:=[],pwd:=[],hh:=true,hst:=R,port:=z}) (p:=(.slice A (rooted S D).length c2)) rfl (Bg.out.row {U0 with au:=S,usr:=[],pwd:=[],hh:=true,hst:=R,port:=z} _) true _ rfl rfl) rfl (eH (u:={U0 with au:=S,usr:=[],pwd:=[],hst:=R,hh:=true,port:=z,aO:=rooted S D}) mX.out (below_setRow Fe.out bP.out _) ho)
    ·
     have qc:Hid (O=none):=by show _=_;rw[Ti.out,hz]
     clear hz
     go_wp2_with (refine aC dQ.out U0 none 0 0 (.tmp 4) (.tmp 86) rfl rfl rfl rfl ?_)
     try simp only[Exit.inBlock,Exit.then]
     exact bodyPost_ret (w:=World.setRow w7 w.heap.size (cells U0 (.slice none 0 0))) (res2 (u:=U0) (p:=.slice none 0 0) rfl (dQ.out.row U0 _) false _ rfl rfl) rfl (kH qc.out (below_setRow iU.out bP.out _))
 ·
  rw[size_strOf]at hk
  obtain⟨E,hE⟩:∃E,E=X.take k:=⟨_,rfl⟩
  obtain⟨V,hV⟩:∃V,V=X.drop (k+1):=⟨_,rfl⟩
  have hVl:V.length≤900000:=by rw[hV,List.length_drop];omega
  have hEl:E.length≤900000:=by rw[hE,List.length_take];omega
  obtain⟨N,P2,bb,hc⟩:∃N P2 b,fG 58 E=(N,P2,b):=⟨_,_,_,rfl⟩
  have hNl:N.length≤900000∧P2.length≤900000:=by have h:=rH 58 E;rw[hc]at h;simp only at h;omega
  have hC:∀w:World,Max w→Calls Tryz.prog 68 #[.string (strOf E),.string ⟨#[58]⟩] w fun e w'=>e=.returned (.tuple #[.string (strOf N),.string (strOf P2),.bool bb])∧Below w.heap.size w w':=fun w ⟨m,hm⟩=>(Tryz.strings_Cut (strOf E) ⟨#[58]⟩ m w (by rw[size_strOf];omega) hm).mono fun e w' ⟨h1,q,h2⟩=>⟨by rw[h1,show(strOf E).data.toList=E from rfl,show(⟨#[58]⟩:ByteArray).data.toList=[58]from rfl,yG,hc];rfl,by rw[h2];exact Base.below_drewN (Below.refl _ _) _⟩
  have HC:=hid hC
  have hx1:(strOf X).extract 0 k=strOf E:=by rw[RU,hE];rfl
  have hx2:(strOf X).extract (k+1) (strOf X).size=strOf V:=by rw[l7,hV];rfl
  have hcr:jL X=(EscE.enc 5 N,EscE.enc 5 P2,V,true):=by unfold jL;rw[hl];simp only;rw[←hE,←hV,hc]
  have hO:=HO0.out
  rw[hcr]at hO
  simp only at hO
  have hkI:(k:Int)≤((strOf X).size:Int):=by rw[size_strOf];omega
  have hkJ:(k:Int)+1≤((strOf X).size:Int):=by rw[size_strOf];omega
  have hk0:¬(k:Int)<0:=by omega
  have hk1:(0:Int)≤(k:Int):=by omega
  have hkt:((k:Int)+1).toNat=k+1:=by omega
  have hXs:(strOf X).size≤900000:=dW hXl
  have HO:=hid hO
  have gY:=hid hx2
  clear hC hcr hO hE hV hc hl HO0
  go_wp2_with fail
  refine(HC.out _ (HM.out.below cZ.out)).mono ?_
  rintro e w4 ⟨rfl,hbx⟩
  have bF:=hid (bD.out.below hbx)
  have bV:=hid (eY.out.below hbx)
  have dD:=hid (bel cZ.out hbx)
  clear bD eY cZ
  clear hbx
  clear hx1
  have hcv:=fun(w:World) s=>run_bytes_of_string (P:=Tryz.prog) w 9 45 5 s Tryz.underlying9 Tryz.underlying45 Tryz.underlying5
  go_wp2_with fail
  clear hcv
  refine(EscE.eF 5 _ _ _ N _ (fV (strOf N) _ _ _) (dW (by omega))).mono ?_
  rintro e w5 ⟨rfl,hb0⟩
  have hbx:Below w4.heap.size w4 w5:=bel (((Below.refl w4.heap.size w4).alloc (Nat.le_refl _) _).drew) hb0
  clear hb0
  have bH:=hid (bF.out.below hbx)
  have bJ:=hid (bV.out.below hbx)
  have fC:=hid (bel dD.out hbx)
  clear bF bV dD
  clear hbx
  have cx:=bJ.out.facts.2.1
  have fx:=bJ.out.thaw.2.1
  go_upto_region 7 with(fail)
  have hxr:=bH.out.set (k:=w2.heap.size) (i:=1) (.string (strOf (EscE.enc 5 N))) (aX.out)
  have hxu:=bJ.out.usr (EscE.enc 5 N)
  have hb:=fC.out.setCell (p:=⟨w2.heap.size,1,none⟩) (fK.out) (.string (strOf (EscE.enc 5 N)))
  clear bH bJ fC
  clear cx fx
  generalize World.setCell w5 _ _=w6 at hxr hxu hb⊢
  have bT:Hid (UB w6 (w.heap.size) (U0) (.slice none 0 0)):=hxr
  clear hxr
  have bG:Hid (UB w6 (w2.heap.size) ({U0 with au:=S,hh:=true,usr:=EscE.enc 5 N}) (.slice none 0 0)):=hxu
  clear hxu
  have gq:=hid hb
  clear hb
  have hcv:=fun(w:World) s=>run_bytes_of_string (P:=Tryz.prog) w 9 45 5 s Tryz.underlying9 Tryz.underlying45 Tryz.underlying5
  go_wp2_with fail
  clear hcv
  refine(EscE.eF 5 _ _ _ P2 _ (fV (strOf P2) _ _ _) (dW (by omega))).mono ?_
  rintro e w7 ⟨rfl,hb0⟩
  have hbx:Below w6.heap.size w6 w7:=bel (((Below.refl w6.heap.size w6).alloc (Nat.le_refl _) _).drew) hb0
  clear hb0
  have dQ:=hid (bT.out.below hbx)
  have dO:=hid (bG.out.below hbx)
  have iU:=hid (bel gq.out hbx)
  clear bT bG gq
  clear hbx
  have cx:=dO.out.facts.2.2.1
  have fx:=dO.out.thaw.2.2.1
  go_upto_region 8 with(fail)
  have hxr:=dQ.out.set (k:=w2.heap.size) (i:=2) (.string (strOf (EscE.enc 5 P2))) (aX.out)
  have hxu:=dO.out.pwd (EscE.enc 5 P2)
  have hb:=iU.out.setCell (p:=⟨w2.heap.size,2,none⟩) (fK.out) (.string (strOf (EscE.enc 5 P2)))
  clear dQ dO iU
  clear cx fx
  generalize World.setCell w7 _ _=w8 at hxr hxu hb⊢
  have iI:Hid (UB w8 (w.heap.size) (U0) (.slice none 0 0)):=hxr
  clear hxr
  have jJ:Hid (UB w8 (w2.heap.size) ({U0 with au:=S,hh:=true,usr:=EscE.enc 5 N,pwd:=EscE.enc 5 P2}) (.slice none 0 0)):=hxu
  clear hxu
  have sS:=hid hb
  clear hb
  have hx2:=gY.out
  by_cases h0:V=[]
  ·
   have qc:Hid (O=none):=by show _=_;rw[HO.out,if_pos ⟨by first|rfl|trivial,h0⟩]
   have q0:((strOf V).toList==[])=true:=by rw[aK,h0];rfl
   have q1:(strOf V).toList=[]:=by rw[aK,h0]
   clear h0
   go_wp2_with (refine aC iI.out U0 none 0 0 (.tmp 4) (.tmp 52) rfl rfl rfl rfl ?_)
   try simp only[Exit.inBlock,Exit.then]
   exact bodyPost_ret (w:=World.setRow w8 w.heap.size (cells U0 (.slice none 0 0))) (res2 (u:=U0) (p:=.slice none 0 0) rfl (iI.out.row U0 _) false _ rfl rfl) rfl (kH qc.out (below_setRow sS.out bP.out _))
  ·
   obtain⟨xe,hxe⟩:∃x,x=EscE.enc 5 N:=⟨_,rfl⟩
   obtain⟨ye,hye⟩:∃x,x=EscE.enc 5 P2:=⟨_,rfl⟩
   have HOT:Hid (O=FW S xe ye V D):=by show _=_;rw[HO.out,if_neg (fun h=>h0 h.2),hxe,hye]
   have q0:((strOf V).toList==[])=false:=by rw[aK,beq_eq_false_iff_ne];exact h0
   have q1:¬(strOf V).toList=[]:=by rw[aK];exact h0
   have q2:(strOf V).toList.isEmpty=false:=by rw[aK];simpa using h0
   rw[←hxe,←hye]at jJ
   clear h0 hxe hye HO
   go_upto_region 11 with(fail)
   clear q0 q1 q2 hx2 hkI hkJ hk0 hk1 hkt hXs hXl hEl hNl gY
   obtain⟨H1,H2,c,hh⟩:∃H1 H2 c,hap false V=(H1,H2,c):=⟨_,_,_,rfl⟩
   have hl1:=(EJ V false).1
   have hl2:=(EJ V false).2
   rw[hh]at hl1 hl2
   simp only at hl1 hl2
   have hhp:∀w:World,Calls Tryz.prog 229 #[.string (strOf V)] w fun e w'=>e=.returned (.tuple #[.string (strOf H1),.string (strOf H2),.bool c])∧Below w.heap.size w w':=fun w=>by
    have h:=Bq (strOf V) w (dW (by omega))
    rw[show(strOf V).data.toList=V from rfl,hh]at h
    exact h
   have HHP:=hid hhp
   have hO2:O=if c=true∧H1=[]then none else match hst H1 (special S),prt S H2 with|some H,some p=>some {U0 with au:=S,usr:=xe,pwd:=ye,hst:=H,hh:=true,port:=p,aO:=rooted S D}|_,_=>none:=by
    rw[HOT.out];unfold FW;rw[hh];first|done|rfl
   have hH:∀w:World,oI w→Tab.Pow w→Max w→Calls Tryz.prog 230 #[.string (strOf H1),.bool (special S)] w fun e w'=>e=.returned (HV (hst H1 (special S)))∧Below w.heap.size w w':=fun w a b d=>sU.parse_any (strOf H1) (special S) w (dW (by omega)) a b d
   have hPo:∀w:World,Calls Tryz.prog 231 #[.string (strOf S),.string (strOf H2)] w fun e w'=>PrtV (prt S H2) e∧w'=w:=fun w=>aa4 (strOf S) (strOf H2) w (dW (by omega))
   have HH:=hid hH
   have HPO:=hid hPo
   have jy:=hid hO2
   clear hhp hl1 hl2 hh hH hPo HOT hO2
   go_wp2_with fail
   refine(HHP.out _).mono ?_
   rintro e w9 ⟨rfl,hbx⟩
   have Bg:=hid (iI.out.below hbx)
   have yt:=hid (jJ.out.below hbx)
   have Fe:=hid (bel sS.out hbx)
   clear iI jJ sS
   clear hbx
   cases c
   focus
    have iV:Hid (O=match hst H1 (special S),prt S H2 with|some H,some p=>some {U0 with au:=S,usr:=xe,pwd:=ye,hst:=H,hh:=true,port:=p,aO:=rooted S D}|_,_=>none):=by show _=_;rw[jy.out,if_neg (by simp)]
    clear jy
    go_wp2_with fail
    refine(wC.out _).mono ?_
    rintro e wx ⟨rfl,hwx⟩
    obtain rfl:w9=wx:=by first|exact hwx|exact hwx.symm
    clear hwx
   rotate_left
   focus
    by_cases h0:H1=[]
    ·
     have qc:Hid (O=none):=by show _=_;rw[jy.out,if_pos ⟨rfl,h0⟩]
     have q0:((strOf H1).toList==[])=true:=by rw[aK,h0];rfl
     have q1:(strOf H1).toList=[]:=by rw[aK,h0]
     clear jy h0
     go_wp2_with (refine aC Bg.out U0 none 0 0 (.tmp 4) (.tmp 64) rfl rfl rfl rfl ?_)
     try simp only[Exit.inBlock,Exit.then]
     exact bodyPost_ret (w:=World.setRow w9 w.heap.size (cells U0 (.slice none 0 0))) (res2 (u:=U0) (p:=.slice none 0 0) rfl (Bg.out.row U0 _) false _ rfl rfl) rfl (kH qc.out (below_setRow Fe.out bP.out _))
    have iV:Hid (O=match hst H1 (special S),prt S H2 with|some H,some p=>some {U0 with au:=S,usr:=xe,pwd:=ye,hst:=H,hh:=true,port:=p,aO:=rooted S D}|_,_=>none):=by show _=_;rw[jy.out,if_neg (fun h=>h0 h.2)]
    have q0:((strOf H1).toList==[])=false:=by rw[aK,beq_eq_false_iff_ne];exact h0
    have q1:¬(strOf H1).toList=[]:=by rw[aK];exact h0
    have q2:(strOf H1).toList.isEmpty=false:=by rw[aK];simpa using h0
    clear jy h0
    go_wp2_with fail
    refine(wC.out _).mono ?_
    rintro e wx ⟨rfl,hwx⟩
    obtain rfl:w9=wx:=by first|exact hwx|exact hwx.symm
    clear hwx
   rotate_left
   all_goals
    cases hx:hst H1 (special S)with
    |none=>
     have qc:Hid (O=none):=by show _=_;rw[iV.out,hx]
     rw[hx]at HH
     clear hx
     go_wp2_with fail
     refine(HH.out _ (HL.out.below Fe.out) (bY HT.out Fe.out) (HM.out.below Fe.out)).mono ?_
     rintro e w10 ⟨rfl,hbx⟩
     have CJ:=hid (Bg.out.below hbx)
     have uS:=hid (yt.out.below hbx)
     have OH:=hid (bel Fe.out hbx)
     clear Bg yt Fe
     clear hbx
     rw[show HV none=.tuple #[.string (strOf []),.bool false]from rfl]
     have cx:=uS.out.facts.2.2.2.1
     have fx:=uS.out.thaw.2.2.2.1
     go_upto_region 16 with(fail)
     have hxr:=CJ.out.set (k:=w2.heap.size) (i:=3) (.string (strOf [])) (aX.out)
     have hxu:=uS.out.hst []
     have hb:=OH.out.setCell (p:=⟨w2.heap.size,3,none⟩) (fK.out) (.string (strOf []))
     clear CJ uS OH
     clear cx fx
     generalize World.setCell w10 _ _=w11 at hxr hxu hb⊢
     have OV:Hid (UB w11 (w.heap.size) (U0) (.slice none 0 0)):=hxr
     clear hxr
     have zG:Hid (UB w11 (w2.heap.size) ({U0 with au:=S,usr:=xe,pwd:=ye,hh:=true,hst:=[]}) (.slice none 0 0)):=hxu
     clear hxu
     have Y1:=hid hb
     clear hb
     go_wp2_with fail
     refine(HPO.out _).mono ?_
     rintro e wx ⟨hv,hwx⟩
     obtain rfl:w11=wx:=hwx.symm
     clear hwx
     obtain⟨z,ok,rfl,hzo⟩:=EX hv
     clear hv
     have cx:=zG.out.facts.2.2.2.2.2.1
     have fx:=zG.out.thaw.2.2.2.2.2.1
     go_upto_region 17 with(fail)
     have hxr:=OV.out.set (k:=w2.heap.size) (i:=5) (.int .i64 z) (aX.out)
     have hxu:=zG.out.port z
     have hb:=Y1.out.setCell (p:=⟨w2.heap.size,5,none⟩) (fK.out) (.int .i64 z)
     clear OV zG Y1
     clear cx fx
     generalize World.setCell w11 _ _=w12 at hxr hxu hb⊢
     have CO:Hid (UB w12 (w.heap.size) (U0) (.slice none 0 0)):=hxr
     clear hxr
     have WH:Hid (UB w12 (w2.heap.size) ({U0 with au:=S,usr:=xe,pwd:=ye,hh:=true,hst:=[],port:=z}) (.slice none 0 0)):=hxu
     clear hxu
     have Y2:=hid hb
     clear hb
     clear hzo
     go_wp2_with (refine aC CO.out U0 none 0 0 (.tmp 4) (.tmp 86) rfl rfl rfl rfl ?_)
     try simp only[Exit.inBlock,Exit.then]
     exact bodyPost_ret (w:=World.setRow w12 w.heap.size (cells U0 (.slice none 0 0))) (res2 (u:=U0) (p:=.slice none 0 0) rfl (CO.out.row U0 _) false _ rfl rfl) rfl (kH qc.out (below_setRow Y2.out bP.out _))
    |some R=>
     have Ti:Hid (O=match prt S H2 with|some p=>some {U0 with au:=S,usr:=xe,pwd:=ye,hst:=R,hh:=true,port:=p,aO:=rooted S D}|none=>none):=by show _=_;rw[iV.out,hx];cases prt S H2<;>rfl
     rw[hx]at HH
     clear hx
     go_wp2_with fail
     refine(HH.out _ (HL.out.below Fe.out) (bY HT.out Fe.out) (HM.out.below Fe.out)).mono ?_
     rintro e w10 ⟨rfl,hbx⟩
     have CJ:=hid (Bg.out.below hbx)
     have uS:=hid (yt.out.below hbx)
     have OH:=hid (bel Fe.out hbx)
     clear Bg yt Fe
     clear hbx
     rw[show HV (some R)=.tuple #[.string (strOf R),.bool true]from rfl]
     have cx:=uS.out.facts.2.2.2.1
     have fx:=uS.out.thaw.2.2.2.1
     go_upto_region 16 with(fail)
     have hxr:=CJ.out.set (k:=w2.heap.size) (i:=3) (.string (strOf R)) (aX.out)
     have hxu:=uS.out.hst R
     have hb:=OH.out.setCell (p:=⟨w2.heap.size,3,none⟩) (fK.out) (.string (strOf R))
     clear CJ uS OH
     clear cx fx
     generalize World.setCell w10 _ _=w11 at hxr hxu hb⊢
     have OV:Hid (UB w11 (w.heap.size) (U0) (.slice none 0 0)):=hxr
     clear hxr
     have zG:Hid (UB w11 (w2.heap.size) ({U0 with au:=S,usr:=xe,pwd:=ye,hh:=true,hst:=R}) (.slice none 0 0)):=hxu
     clear hxu
     have Y1:=hid hb
     clear hb
     go_wp2_with fail
     refine(HPO.out _).mono ?_
     rintro e wx ⟨hv,hwx⟩
     obtain rfl:w11=wx:=hwx.symm
     clear hwx
     obtain⟨z,ok,rfl,hzo⟩:=EX hv
     clear hv
     have cx:=zG.out.facts.2.2.2.2.2.1
     have fx:=zG.out.thaw.2.2.2.2.2.1
     go_upto_region 17 with(fail)
     have hxr:=OV.out.set (k:=w2.heap.size) (i:=5) (.int .i64 z) (aX.out)
     have hxu:=zG.out.port z
     have hb:=Y1.out.setCell (p:=⟨w2.heap.size,5,none⟩) (fK.out) (.int .i64 z)
     clear OV zG Y1
     clear cx fx
     generalize World.setCell w11 _ _=w12 at hxr hxu hb⊢
     have CO:Hid (UB w12 (w.heap.size) (U0) (.slice none 0 0)):=hxr
     clear hxr
     have WH:Hid (UB w12 (w2.heap.size) ({U0 with au:=S,usr:=xe,pwd:=ye,hh:=true,hst:=R,port:=z}) (.slice none 0 0)):=hxu
     clear hxu
     have Y2:=hid hb
     clear hb
     rcases hzo with⟨hz,rfl⟩|⟨hz,rfl⟩
     ·
      have mX:Hid (O=some {U0 with au:=S,usr:=xe,pwd:=ye,hst:=R,hh:=true,port:=z,aO:=rooted S D}):=by show _=_;rw[Ti.out,hz]
      clear hz
      go_wp2_with fail
      refine(UC.out _).mono ?_
      rintro e w13 ⟨q,rfl,hown,hbx⟩
      obtain⟨A,c2,rfl,hq⟩:=bW (u:={U0 with aO:=rooted S D}) hown
      clear hq
      replace hown:=ay hown (Nat.le_refl _)
      have zF:Hid (w2.heap.size<w12.heap.size):=WH.out.lt
      have iy:Hid (w.heap.size<w12.heap.size):=CO.out.lt
      have ajV:=hid (CO.out.below hbx)
      have WI:=hid (WH.out.below hbx)
      have HBw13:=hid (bel Y2.out hbx)
      have ajJ:=hid hown
      clear hown
      clear CO WH Y2
      clear hbx
      have BX:=zF.out
      have cx:=WI.out.facts.2.2.2.2.2.2.2.2.1
      have fx:=WI.out.thaw.2.2.2.2.2.2.2.2.1
      go_upto_region 20 with(fail)
      have hxr:=ajV.out.set (k:=w2.heap.size) (i:=8) (.slice A (rooted S D).length c2) (aX.out)
      have hxu:=WI.out.path (.slice A (rooted S D).length c2)
      have hoq:=gU.aN (w':=w13.setCell ⟨w2.heap.size,8,none⟩ (.slice A (rooted S D).length c2)) (gb:=w2.heap.size) ajJ.out (fun k hk=>heap_setCell_other _ _ _ _ hk) (by omega)
      have hb:=HBw13.out.setCell (p:=⟨w2.heap.size,8,none⟩) (fK.out) (.slice A (rooted S D).length c2)
      clear ajV WI ajJ HBw13
      clear cx fx
      generalize World.setCell w13 _ _=w14 at hxr hxu hoq hb⊢
      have ajW:Hid (UB w14 (w.heap.size) (U0) (.slice none 0 0)):=hxr
      clear hxr
      have HXuw14:Hid (UB w14 (w2.heap.size) ({U0 with au:=S,usr:=xe,pwd:=ye,hh:=true,hst:=R,port:=z}) (.slice A (rooted S D).length c2)):=hxu
      clear hxu
      have HOqw14:=hid hoq
      clear hoq
      have HBw14:=hid hb
      clear hb
      clear BX
      obtain⟨c0,c1,c2',c3,c4,c5,c6,c7,c8,c9,c10,c11,c12⟩:=HXuw14.out.facts
      go_wp2_with (refine aC ajW.out {U0 with au:=S,usr:=xe,pwd:=ye,hh:=true,hst:=R,port:=z} A (rooted S D).length c2 (.tmp 4) (.tmp 91) rfl rfl rfl rfl ?_)
      try simp only[Exit.inBlock,Exit.then]
      have hpo:∀k,k≠w.heap.size→(World.setRow w14 (w.heap.size) (cells {U0 with au:=S,usr:=xe,pwd:=ye,hh:=true,hst:=R,port:=z} (.slice A (rooted S D).length c2))).heap[k]?=w14.heap[k]?:=fun k hk=>setRow_other _ _ _ _ hk
      have ho:=ay (gU.aN HOqw14.out hpo iy.out) (by have h1:=bP.out;have h2:=iy.out;omega:w.heap.size≤_)
      exact bodyPost_ret (w:=World.setRow w14 w.heap.size (cells {U0 with au:=S,usr:=xe,pwd:=ye,hh:=true,hst:=R,port:=z} (.slice A (rooted S D).length c2))) (res2 (u:={U0 with au:=S,usr:=xe,pwd:=ye,hh:=true,hst:=R,port:=z}) (p:=(.slice A (rooted S D).length c2)) rfl (ajW.out.row {U0 with au:=S,usr:=xe,pwd:=ye,hh:=true,hst:=R,port:=z} _) true _ rfl rfl) rfl (eH (u:={U0 with au:=S,usr:=xe,pwd:=ye,hst:=R,hh:=true,port:=z,aO:=rooted S D}) mX.out (below_setRow HBw14.out bP.out _) ho)
     ·
      have qc:Hid (O=none):=by show _=_;rw[Ti.out,hz]
      clear hz
      go_wp2_with (refine aC CO.out U0 none 0 0 (.tmp 4) (.tmp 86) rfl rfl rfl rfl ?_)
      try simp only[Exit.inBlock,Exit.then]
      exact bodyPost_ret (w:=World.setRow w12 w.heap.size (cells U0 (.slice none 0 0))) (res2 (u:=U0) (p:=.slice none 0 0) rfl (CO.out.row U0 _) false _ rfl rfl) rfl (kH qc.out (below_setRow Y2.out bP.out _))
end Go.Proofs.YtmpeaoacaecgpaaGreatDoor.yx
namespace Go.Proofs.YtmpeaoacaecgpaaGreatDoor.Pbx
open Go.RowKit Base Base2 PrsP
def bQ (p:Parts):Array Value:=#[.string (strOf p.au),.string (strOf p.rest),.string (strOf p.dY),.string (strOf p.fB),.bool p.hq,.bool p.hf]
def P0:Parts:=⟨[],[],[],[],false,false⟩
def PB (w:World) (g:Nat) (p:Parts):Prop:=w.heap[g]?=some (.cells (bQ p) 64 (0,0))
variable {w w':World} {g:Nat} {p:Parts}
theorem PB.lt (h:PB w g p):g<w.heap.size:=(Array.getElem?_eq_some_iff.1 h).1
theorem PB.below (h:PB w g p) (hb:Below w.heap.size w w'):PB w' g p:=(hb.block g h.lt).trans h
theorem PB.facts (h:PB w g p):w.cell? ⟨g,0,none⟩=some (.string (strOf p.au))∧w.cell? ⟨g,1,none⟩=some (.string (strOf p.rest))∧w.cell? ⟨g,2,none⟩=some (.string (strOf p.dY))∧w.cell? ⟨g,3,none⟩=some (.string (strOf p.fB))∧w.cell? ⟨g,4,none⟩=some (.bool p.hq)∧w.cell? ⟨g,5,none⟩=some (.bool p.hf):=
 ⟨cell_of_row w g 0 _ _ _ h,cell_of_row w g 1 _ _ _ h,cell_of_row w g 2 _ _ _ h,cell_of_row w g 3 _ _ _ h,cell_of_row w g 4 _ _ _ h,cell_of_row w g 5 _ _ _ h⟩
theorem PB.thaw (h:PB w g p):w.frozen? ⟨g,0,none⟩=false∧w.frozen? ⟨g,1,none⟩=false∧w.frozen? ⟨g,2,none⟩=false∧w.frozen? ⟨g,3,none⟩=false∧w.frozen? ⟨g,4,none⟩=false∧w.frozen? ⟨g,5,none⟩=false:=
 ⟨frozen_of_row w g 0 _ _ h,frozen_of_row w g 1 _ _ h,frozen_of_row w g 2 _ _ h,frozen_of_row w g 3 _ _ h,frozen_of_row w g 4 _ _ h,frozen_of_row w g 5 _ _ h⟩
theorem PB.au (h:PB w g p) (s:List UInt8):PB (w.setCell ⟨g,0,none⟩ (.string (strOf s))) g {p with au:=s}:=heap_setCell_same w g 0 _ _ _ h
theorem PB.rest (h:PB w g p) (s:List UInt8):PB (w.setCell ⟨g,1,none⟩ (.string (strOf s))) g {p with rest:=s}:=heap_setCell_same w g 1 _ _ _ h
theorem PB.dY (h:PB w g p) (s:List UInt8):PB (w.setCell ⟨g,2,none⟩ (.string (strOf s))) g {p with dY:=s}:=heap_setCell_same w g 2 _ _ _ h
theorem PB.fB (h:PB w g p) (s:List UInt8):PB (w.setCell ⟨g,3,none⟩ (.string (strOf s))) g {p with fB:=s}:=heap_setCell_same w g 3 _ _ _ h
theorem PB.hq (h:PB w g p) (b:Bool):PB (w.setCell ⟨g,4,none⟩ (.bool b)) g {p with hq:=b}:=heap_setCell_same w g 4 _ _ _ h
theorem PB.hf (h:PB w g p) (b:Bool):PB (w.setCell ⟨g,5,none⟩ (.bool b)) g {p with hf:=b}:=heap_setCell_same w g 5 _ _ _ h
theorem PB.set (h:PB w g p) {k i:Nat} (x:Value) (hk:g≠k):PB (w.setCell ⟨k,i,none⟩ x) g p:=by
 unfold PB
 rw[heap_setCell_other _ _ _ _ hk]
 exact h
theorem PB.row (h:PB w g p) (q:Parts):PB (w.setRow g (bQ q)) g q:=setRow_heap w g (bQ p) (bQ q) _ (0,0) h
theorem Ei {ops:Array Oper} {rest:List Oper} {o:Oper} {a:Act} {Q:Exit→Act→World→Prop} (hU:PB w g p) (q:Parts) (x y:Operand) (ho:o.op=.store 64 x y) (hgd:o.guard=none)
  (hx:a.eval x=.pointer (some ⟨g,0,none⟩)) (hy:a.eval y=.agg (bQ q))
  (h:wpList Tryz.prog ops Q rest (a.put o.dst undef) (w.setRow g (bQ q))):wpList Tryz.prog ops Q (o::rest) a w:=
 wpList_store_row hgd 64 x y ho g (bQ q) hx hy 64 (bQ p) hU (by kernel_rfl) rfl (by simp[bQ,Value.oneCell']) h
theorem resP {fn:Func} {a:Tmp} (h:fn.results=#[.cell a 64]) (hU:PB w g p) (tmps:Array Value) (h2:tmps.getD a undef=.pointer (some ⟨g,0,none⟩)):
  (results fn tmps).run Tryz.prog w=.ok (.agg (bQ p)) w:=
 results_cell_row h tmps w g _ _ _ _ h2 hU Tryz.underlying64 rfl (by kernel_rfl)
end Go.Proofs.YtmpeaoacaecgpaaGreatDoor.Pbx
