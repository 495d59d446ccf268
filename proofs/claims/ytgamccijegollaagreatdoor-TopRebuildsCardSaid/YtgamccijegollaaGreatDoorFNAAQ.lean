/- Texts that belong together: BG, agI, TokS, NH, J6, J7, OY, acs, al8, apt, BuiB. -/
import Derived.Test.YtgamccijegollaaGreatDoorFNAAL
import Derived.Test.YtgamccijegollaaGreatDoorFNAAK
import Derived.Test.YtgamccijegollaaGreatDoorFNAAA
import Derived.IntWalk
import Derived.Deep.QuietTactic
import Derived.BigQuiet
import Derived.Laws.IdiomArrays
import Derived.OpenShut
import Derived.Lib.SmallJoins
import Derived.Test.YtgamccijegollaaGreatDoorFNAAP
import Derived.Test.YtgamccijegollaaGreatDoorShelf
import Derived.Laws.StructEq
import Derived.Test.YtgamccijegollaaGreatDoorFNAAM
import Derived.Test.YtgamccijegollaaGreatDoorFNAAN
import Derived.Test.YtgamccijegollaaGreatDoorFNAAE
set_option linter.unusedSimpArgs false
set_option linter.unusedVariables false
set_option maxRecDepth 100000
set_option maxHeartbeats 64000000
namespace Go.Proofs.YtgamccijegollaaGreatDoor.BG
open Go.RowKit Base Dp cO pU qg OW NG OX oG sV rC
theorem XG (a b:ByteArray):(a.toList==b.toList)=decide (a.data.toList=b.data.toList):=by
 rw[Lib.toList_data,Lib.toList_data,Bool.eq_iff_iff]
 simp
theorem uJ (s:ByteArray) (w:World) (hs:s.size≤1073741824):Calls Tryz.prog 184 #[.string s] w fun e w'=>e=.returned (.bool (RG s.data.toList))∧Below w.heap.size w w':=by
 have hi:=fun w=>Gn.QC s w hs
 obtain⟨M,hM⟩:∃M:ByteArray,M=strOf (lower s.data.toList):=⟨_,rfl⟩
 have hq:=XG M s
 have hlw:=fun w=>cO.gI s w (by unfold maxLen;omega)
 rw[←hM]at hlw
 have Tf:=hid hlw
 obtain⟨b,hb⟩:∃b,b=decide (M.data.toList=s.data.toList):=⟨_,rfl⟩
 rw[←hb]at hq
 have hV:RG s.data.toList=(dP s.data.toList&&b):=by unfold RG;rw[hb,hM];rfl
 obtain⟨t,ht⟩:∃t,t=dP s.data.toList:=⟨_,rfl⟩
 rw[←ht]at hi hV
 have HV:=hid hV
 have HI:=hid hi
 clear hlw hM hb hV ht hi hs
 go_enter Tryz.func184,Tryz.ntmps184
 go_wp2_with fail
 refine(HI.out _).mono ?_
 rintro e w2 ⟨rfl,hw2⟩
 subst hw2
 cases t with
 |false=>
  go_wp2
  go_ret
  exact⟨ak (by rw[HV.out];rfl),Below.refl _ _⟩
 |true=>
  go_wp2_with fail
  refine(Tf.out _).mono ?_
  rintro e w3 ⟨rfl,hb3⟩
  go_wp2
  go_ret
  exact⟨ak (by rw[HV.out];simp[hq]),hb3⟩
theorem Dn (T S:ByteArray) (v:Value) (w:World) (hT:T.size≤140737488351232) (hS:S.size≤140737488351232):
  Calls Tryz.prog 70 #[.agg #[.string T,.string S,v]] w fun e w'=>e=.returned (.string (strOf (ess T.data.toList S.data.toList)))∧Below w.heap.size w w':=by
 obtain⟨Y,hY⟩:∃Y,Y=T.data.toList++[47]:=⟨_,rfl⟩
 obtain⟨Z,hZ⟩:∃Z,Z=Y++S.data.toList:=⟨_,rfl⟩
 have hYl:Y.length=T.size+1:=by rw[hY,List.length_append,show T.data.toList.length=T.size from Array.length_toList];rfl
 have a1:∀w:World,(Op.stringOp .add T ⟨#[47]⟩).run Tryz.prog w=.ok (.string (strOf Y)) w:=fun w=>by rw[hY];exact dL _ ⟨#[47]⟩ w (by show _+1≤_;omega)
 have a2:∀w:World,(Op.stringOp .add (strOf Y) S).run Tryz.prog w=.ok (.string (strOf Z)) w:=fun w=>by rw[hZ];exact dL _ S w (by rw[o9];omega)
 have HZ:Hid (ess T.data.toList S.data.toList=Z):=by show _=_;rw[hZ,hY];simp[ess]
 clear hY hZ hYl hT hS
 go_enter Tryz.func70,Tryz.ntmps70
 go_wp2
 go_ret
 exact⟨by rw[HZ.out];rfl,(Below.refl _ _).alloc (Nat.le_refl _) _⟩
def vY (T S:ByteArray) (l:List (ByteArray×ByteArray)):Prop:=l.length≤20∧T.size+S.size≤200∧∀p ∈ l,p.1.size+p.2.size≤200
end Go.Proofs.YtgamccijegollaaGreatDoor.BG
namespace Go.Proofs.YtgamccijegollaaGreatDoor.agI
open Go.RowKit Base Dp Wx
def wF (b:Nat) (w w':World):Prop:=∀(g:Nat) (C:Array Value) (T:TypeId) (m:Nat×Nat),g≠b→T≠5→w.heap[g]?=some (.cells C T m)→w'.heap[g]?=some (.cells C T m)
theorem wF.refl (b:Nat) (w:World):wF b w w:=fun _ _ _ _ _ _ h=>h
theorem wF.trans {b:Nat} {w w1 w2:World} (h:wF b w w1) (h2:wF b w1 w2):wF b w w2:=fun g C T m hg hT e=>h2 g C T m hg hT (h g C T m hg hT e)
theorem wF.set (b:Nat) (w:World) (i:Nat) (v:Value):wF b w (w.setCell ⟨b,i,none⟩ v):=fun g C T m hg _ e=>(heap_setCell_other w ⟨b,i,none⟩ g v (fun e=>hg e)).trans e
theorem ada (B b:Nat) (bs:List Value) (w:World) (h:Lib.IsBuilder 168 5 B b bs w):
  Calls Tryz.prog 209 #[.pointer (some ⟨b,0,none⟩)] w fun e w'=>e=.returned (.tuple #[])∧(Lib.BuilderAt 168 5 B b (.pointer (some ⟨b,0,none⟩)) bs w'∧Below B w w')∧wF b w w':=by
 rcases h with h|h
 ·refine(MJ b w h.cell0 h.shape h.frozen0).mono ?_
  rintro e w' ⟨rfl,rfl⟩
  exact⟨rfl,⟨h.used _,(Below.refl B w).setCell (p:=⟨b,0,none⟩) h.1 _⟩,wF.set b w 0 _⟩
 ·refine(PY b w h.cell0).mono ?_
  rintro e w' ⟨rfl,rfl⟩
  exact⟨rfl,⟨h,Below.refl B _⟩,wF.refl _ _⟩
theorem Ba (B b:Nat) (l:List UInt8) (s:ByteArray) (w:World) (h:lq B b l w) (hlen:l.length+s.size≤140737488355328) (hBw:B≤w.heap.size):
  Calls Tryz.prog 106 #[.pointer (some ⟨b,0,none⟩),.string s] w fun e w'=>e=.returned (.tuple #[.int .i64 s.size,.nilIface])∧lq B b (l++s.data.toList) w'∧Below B w w'∧wF b w w':=by
 obtain⟨i0,hi,hz0,hz1,hz2⟩:=info_parts iR
 have hlb:(Lib.byteCells l).length=l.length:=by simp[Lib.byteCells]
 have WE:=Base.hid hlb
 clear hlb
 go_enter Tryz.func106,Tryz.ntmps106
 go_wp2_with (refine(ada B b _ _ h).mono ?_)
 rintro e w1 ⟨rfl,⟨h1,hb1⟩,hk1⟩
 have Ux:=Base.hid hk1
 clear hk1
 obtain⟨hB,v,hbk,hown,hne⟩:=h1
 have c0:w1.cell? ⟨b,0,none⟩=some (.pointer (some ⟨b,0,none⟩)):=by rw[Lib.cell_of_heap hbk];rfl
 have c1:w1.cell? ⟨b,1,none⟩=some v:=by rw[Lib.cell_of_heap hbk];rfl
 go_wp2_with (at_builtin;refine Lib.wpList_append_own_string _ rfl _ _ 45 9 rfl B 5 i0 Tryz.underlying45 Tryz.underlying9 hi hz0 hz1 hz2 _ _ _ rfl hown s rfl ?c3 ?c4 ?c5 ?_)
 case c3=>have:=WE.out;unfold maxLen;omega
 case c4=>have:=WE.out;omega
 case c5=>have:=hb1.size;omega
 intro v' w2 hown' hgrow _
 have hk2:wF b w1 w2:=by
  intro g C T m hg hT e
  have hlt:g<w1.heap.size:=(Array.getElem?_eq_some_iff.1 e).1
  rw[hgrow.block g hlt (fun e2=>?_)]
  ·exact e
  ·rcases hown.2 with⟨hv,_⟩|⟨g',cap,cur,hv,_,hh,_⟩
   ·rw[hv]at e2
    cases e2
   ·rw[hv]at e2
    have e3:g'=g:=by simpa[Value.ownBlock,eq_comm]using e2
    subst e3
    rw[e]at hh
    simp at hh
    exact hT hh.2.1
 have X6:=Base.hid hk2
 clear hk2
 have hlt:b<w1.heap.size:=(Array.getElem?_eq_some_iff.1 hbk).1
 have hb2:w2.heap[b]?=some (.cells #[.pointer (some ⟨b,0,none⟩),v] 168 (0,0)):=by
  rw[hgrow.block b hlt (fun e=>hne e.symm)]
  exact hbk
 have d0:w2.cell? ⟨b,0,none⟩=some (.pointer (some ⟨b,0,none⟩)):=by rw[Lib.cell_of_heap hb2];rfl
 have d1:w2.cell? ⟨b,1,none⟩=some v:=by rw[Lib.cell_of_heap hb2];rfl
 have f1:w2.frozen? ⟨b,1,none⟩=false:=Lib.frozen_of_heap hb2 1
 obtain⟨ao,n',cap,rfl⟩:∃ao n' cap,v'=.slice ao n' cap:=by
  rcases hown'.2 with⟨hv,_⟩|⟨g,cap,cur,hv,_⟩
  ·exact⟨_,_,_,hv⟩
  ·exact⟨_,_,_,hv⟩
 go_wp2
 go_ret2
 refine⟨rfl,Or.inr ?_,?_,(Ux.out.trans X6.out).trans (wF.set b w2 1 _)⟩
 ·have hp:=Lib.BuilderAt.put (T:=168) (e:=5) hB hb2 (bs':=Lib.byteCells l++Lib.strCells s) (by simpa[Lib.strCells_length]using hown') (by decide)
  have e:Lib.byteCells (l++s.data.toList)=Lib.byteCells l++Lib.strCells s:=by simp[Lib.byteCells,Lib.strCells]
  rw[e]
  exact hp
 ·exact(hb1.grown hgrow (by have:=hb1.size;omega) (fun k hk=>(hown.lt k hk).1)).setCell (p:=⟨b,1,none⟩) hB _
theorem qL (B b:Nat) (l:List UInt8) (w:World) (h:lq B b l w) (hBw:B≤w.heap.size):
  Calls Tryz.prog 109 #[.pointer (some ⟨b,0,none⟩)] w fun e w'=>e=.returned (.string (strOf l))∧Below B w w':=Tryz.Builder_String B b l w h hBw
theorem gZ {B b:Nat} {l:List UInt8} {w w':World} (h:lq B b l w) (hb:Below w.heap.size w w'):lq B b l w':=by
 rcases h with⟨h1,v,h2,h3,h4⟩|⟨h1,v,h2,h3,h4⟩
 ·exact Or.inl ⟨h1,v,(hb.block _ (Array.getElem?_eq_some_iff.1 h2).1).trans h2,aP h3 hb,h4⟩
 exact Or.inr ⟨h1,v,(hb.block _ (Array.getElem?_eq_some_iff.1 h2).1).trans h2,aP h3 hb,h4⟩
end Go.Proofs.YtgamccijegollaaGreatDoor.agI
namespace Go.Proofs.YtgamccijegollaaGreatDoor.TokS
open Go.RowKit Base Dp pU WZ
theorem air (s:ByteArray) (w:World) (hs:s.size≤1073741824):
  Calls Tryz.prog 108 #[.string s] w fun e w'=>e=.returned (.string (strOf (qq s.data.toList)))∧Below w.heap.size w w':=by
 have hl:s.data.toList.length=s.size:=Array.length_toList
 have HL:=hid hl
 clear hl
 obtain⟨i0,hi,hz0,hz1,hz2⟩:=info_parts iR
 go_enter Tryz.func108,Tryz.ntmps108
 go_wp2
 have hown0:(w.alloc (.cells #[.int .u8 34] 5)).ownsRow w.heap.size 5 1 (.slice (some ⟨w.heap.size,0,none⟩) 1 1) 1 (ah [34]):=
  ⟨rfl,.inr ⟨w.heap.size,1,#[.int .u8 34],rfl,Nat.le_refl _,heap_alloc_new w _,Nat.le_refl _,by decide,rfl,rfl⟩⟩
 go_loopw [3,4] (fun v vk wr=>∃(j m:Nat),j≤s.size∧m≤2*j+1∧vk=.int .i64 j∧Hid ((34::qt (s.data.toList.take j)).length=m)∧wr.ownsRow w.heap.size 5 1 v m (ah (34::qt (s.data.toList.take j)))∧Below w.heap.size w wr) (fun _ vk _=>s.size - (intOf vk).toNat)
 case atStart=>exact⟨0,1,Nat.zero_le _,by omega,rfl,rfl,hown0,(Below.refl _ _).alloc (Nat.le_refl _) _⟩
 case round =>
  clear hown0
  obtain⟨j,m,hj,hm,rfl,HM,hown,hbel⟩:=hrel
  by_cases hlt:j<s.size
  ·obtain ⟨c,hc⟩:∃c,s[j]=c:=⟨_,rfl⟩
   have HS:Hid (s.data.toList.take (j+1)=s.data.toList.take j++[c]):=by
    rw[←hc,List.take_succ_eq_append_getElem (by rw[HL.out];exact hlt)]
    rfl
   by_cases hq:(c.toNat:Int)=34∨(c.toNat:Int)=92
   ·have HE:Hid (34::qt (s.data.toList.take (j+1))=(34::qt (s.data.toList.take j))++[92]++[c]):=by
     show _=_
     rw[HS.out,agd,qe,if_pos (by rcases hq with h|h;exact .inl (Dl c 34 h);exact .inr (Dl c 92 h))]
     simp
    have hcase:((c.toNat:Int)==34)=true∨(((c.toNat:Int)==34)=false∧((c.toNat:Int)==92)=true):=by
     by_cases h:(c.toNat:Int)=34
     ·exact .inl (by simp[h])
     ·exact .inr ⟨by simp[h],by simp;omega⟩
    clear hq
    rcases hcase with e1|⟨e1,e2⟩
    all_goals
     go_wp2_with (at_builtin;refine aQ rfl _ _ 45 rfl w.heap.size 5 i0 (.int .u8 0) 1 Tryz.underlying45 hi hz0 hz1 hz2 rfl _ m _ rfl hown hbel hbel.size [.int .u8 92] 1 rfl rfl (by intro u hu;simp at hu;subst hu;rfl) (by unfold maxLen;omega) (by omega) ?_)
     intro v' w3 hown3 dG
     clear hown hbel
     go_wp2_with (at_builtin;refine aQ rfl _ _ 45 rfl w.heap.size 5 i0 (.int .u8 0) 1 Tryz.underlying45 hi hz0 hz1 hz2 rfl _ (m+1) _ rfl hown3 dG dG.size [.int .u8 (c.toNat:Int)] 1 rfl rfl (by intro u hu;simp at hu;subst hu;rfl) (by unfold maxLen;omega) (by omega) ?_)
     intro v4 w4 hown4 rQ
     clear hown3 dG
     go_wp2
     go_roundw
     case rel=>exact⟨j+1,m+1+1,by omega,by omega,by go_num,by rw[HE.out,List.length_append,List.length_append,HM.out];exact rfl,by rw[HE.out,aS,aS,show ah [92]=[.int .u8 92]from rfl,List.append_assoc];exact hown4,rQ⟩
     case measure=>simp[intOf];omega
   ·have HE:Hid (34::qt (s.data.toList.take (j+1))=(34::qt (s.data.toList.take j))++[c]):=by
     show _=_
     rw[HS.out,agd,qe,if_neg (by rintro(h|h);exact hq (.inl (by rw[h];rfl));exact hq (.inr (by rw[h];rfl)))]
     all_goals simp
    have e1:((c.toNat:Int)==34)=false:=by simp;omega
    have e2:((c.toNat:Int)==92)=false:=by simp;omega
    clear hq
    go_wp2_with (at_builtin;refine aQ rfl _ _ 45 rfl w.heap.size 5 i0 (.int .u8 0) 1 Tryz.underlying45 hi hz0 hz1 hz2 rfl _ m _ rfl hown hbel hbel.size [.int .u8 (c.toNat:Int)] 1 rfl rfl (by intro u hu;simp at hu;subst hu;rfl) (by unfold maxLen;omega) (by omega) ?_)
    intro v' w3 hown3 dG
    clear hown hbel
    go_wp2
    go_roundw
    case rel=>exact⟨j+1,m+1,by omega,by omega,by go_num,by rw[HE.out,List.length_append,HM.out];exact rfl,by rw[HE.out,aS];exact hown3,dG⟩
    case measure=>simp[intOf];omega
  ·obtain rfl:j=s.size:=by omega
   have HE:Hid (34::qt (s.data.toList.take s.size)=34::qt s.data.toList):=by
    show _=_
    rw[←HL.out,List.take_length]
   rw[HE.out]at hown
   clear HM
   go_wp2_with (at_builtin;refine aQ rfl _ _ 45 rfl w.heap.size 5 i0 (.int .u8 0) 1 Tryz.underlying45 hi hz0 hz1 hz2 rfl _ m _ rfl hown hbel hbel.size [.int .u8 34] 1 rfl rfl (by intro u hu;simp at hu;subst hu;rfl) (by unfold maxLen;omega) (by omega) ?_)
   intro v' w3 hown3 dG
   clear hown hbel
   have hown4:w3.ownsRow w.heap.size 5 1 v' (m+1) (ah (qq s.data.toList)):=by
    have e:ah (34::qt s.data.toList)++[.int .u8 34]=ah (qq s.data.toList):=by simp[qq,ah]
    rw[←e]
    exact hown3
   clear hown3
   obtain⟨A,cp,rfl,_,_,hrd⟩:=aJ hown4
   have hst:=aF 45 9 5 Tryz.underlying45 Tryz.underlying5 Tryz.underlying9 _ cp hrd
   go_wp2
   go_ret
   exact⟨rfl,dG⟩
end Go.Proofs.YtgamccijegollaaGreatDoor.TokS
namespace Go.Proofs.YtgamccijegollaaGreatDoor.NH
open Go.RowKit Base Dp cO pU qg OW NG OX oG sV BG rC Wx agI
def mQ (l:List (ByteArray×ByteArray)):PL:=l.map fun p=>(p.1.data.toList,p.2.data.toList)
theorem qO (l:List (ByteArray×ByteArray)):(mQ l).length=l.length:=by simp[mQ]
theorem OZ (l:List (ByteArray×ByteArray)) (k:Nat) (h:k<l.length):(mQ l).take (k+1)=(mQ l).take k++[(l[k].1.data.toList,l[k].2.data.toList)]:=by
 rw[List.take_succ_eq_append_getElem (by rw[qO];exact h)]
 simp[mQ]
theorem ae2 (l:List (ByteArray×ByteArray)):(mQ l).take l.length=mQ l:=List.take_of_length_le (by rw[qO];exact Nat.le_refl _)
theorem dl (s:ByteArray):s.data.toList.length=s.size:=Array.length_toList
theorem am4 (s1 s2:ByteArray) (h:s1.size+s2.size≤200):(Q9 (s1.data.toList,s2.data.toList)).length≤604:=by
 have:=anb s2.data.toList
 rw[dl]at this
 unfold Q9
 simp only[List.length_cons,List.length_append,dl]
 omega
theorem Yc {l:List (ByteArray×ByteArray)} (h:∀p ∈ l,p.1.size+p.2.size≤200):∀k,k≤l.length→(pps ((mQ l).take k)).length≤604*k
 |0,_=>by simp[pps]
 |k+1,hk=>by
  have ih:=Yc h k (by omega)
  have:=am4 l[k].1 l[k].2 (h _ (List.getElem_mem _))
  rw[OZ l k (by omega),Rh,List.length_append]
  omega
theorem afp (T S:ByteArray):(ess T.data.toList S.data.toList).length=T.size+S.size+1:=by
 unfold ess
 simp only[List.length_cons,List.length_append,dl]
 omega
theorem hB3lt {B b:Nat} {l:List UInt8} {w:World} (h:lq B b l w):b<w.heap.size:=by
 rcases h with⟨_,v,h2,_⟩|⟨_,v,h2,_⟩
 ·exact(Array.getElem?_eq_some_iff.1 h2).1
 exact(Array.getElem?_eq_some_iff.1 h2).1
theorem aeg (P s1 v:List UInt8) (s2:List UInt8) (h:v=Au s2):P++((59::s1)++[61])++v=P++Q9 (s1,s2):=by
 subst h
 simp[Q9]
theorem print_any (T S:ByteArray) (A:Option Addr) (n cap:Nat) (l:List (ByteArray×ByteArray)) (w:World) (hr:zH w A n l) (hc:n≤cap) (hm:cap≤maxLen) (hF:vY T S l):
  Calls Tryz.prog 49 #[.agg #[.string T,.string S,.slice A n cap]] w fun e w'=>e=.returned (.string (strOf (dS T.data.toList S.data.toList (mQ l))))∧Below w.heap.size w w':=by
 unfold maxLen at hm
 obtain⟨hf1,hf2,hf3⟩:=hF
 have hl:l.length=n:=hr.1
 have HL:=hid hl
 have HR:=hid hr
 have HF:=hid hf3
 have hn20:n≤20:=by omega
 obtain⟨E,hE⟩:∃E,E=ess T.data.toList S.data.toList:=⟨_,rfl⟩
 have hEl:E.length≤201:=by rw[hE,afp];omega
 have HE:=hid (fun w=>Dn T S (.slice A n cap) w (by omega) (by omega))
 rw[←hE]at HE
 have HP:Hid (∀k,k≤l.length→(E++pps ((mQ l).take k)).length≤201+604*k):=by
  intro k hk
  have:=Yc hf3 k hk
  rw[List.length_append]
  omega
 have HV:Hid (dS T.data.toList S.data.toList (mQ l)=E++pps ((mQ l).take n)):=by
  show _=_
  rw[←hl,ae2,hE]
  rfl
 have HEL:=hid hEl
 have HTY:Hid (130≠5):=by show _≠_;decide
 clear hr hl hf1 hf2 hf3 hE hEl
 go_enter Tryz.func49,Tryz.ntmps49
 go_upto_region 1 with(fail)
 generalize hw1:w.alloc _=w1
 have hb1:Below w.heap.size w w1:=by rw[←hw1];exact(Below.refl _ _).alloc (Nat.le_refl _) _
 have hs1:w1.heap.size=w.heap.size+1:=by rw[←hw1];simp
 have kP:Hid (B3 44 w1 w.heap.size (.string T) (.string S) (.slice A n cap)):=by
  show B3 _ _ _ _ _ _
  rw[←hw1]
  exact heap_alloc_new w _
 clear hw1
 go_upto_region 2 with(fail)
 have HB2:Hid (lq (w.heap.size+1) (w.heap.size+1) [] (w1.alloc (.cells #[.pointer none,.slice none 0 0] 168))):=by
  have h:=Lib.fresh_isBuilder 168 5 w1
  rw[hs1]at h
  exact h
 have XO:Below (w.heap.size+1) w1 (w1.alloc (.cells #[.pointer none,.slice none 0 0] 168)):=(Below.refl _ _).alloc (by rw[hs1];exact Nat.le_refl _) _
 generalize hw2:w1.alloc _=w2 at HB2 XO⊢
 clear hw2
 have hsz1:w.heap.size+1≤w2.heap.size:=by have:=XO.size;omega
 have hx2:B3 44 w2 w.heap.size (.string T) (.string S) (.slice A n cap):=(XO.block _ (by omega)).trans kP.out
 have gY:=hid hx2
 obtain⟨c0,c1,c2⟩:=hx2.facts
 have HB02:Hid (Below w.heap.size w w2):=hb1.trans (XO.mono (by omega))
 have BD:=hid hs1
 clear hx2 hs1 hb1 XO kP
 go_wp2_with fail
 refine(HE.out _).mono ?_
 rintro e w3 ⟨rfl,hb3⟩
 have HB3:=hid (gZ HB2.out hb3)
 have HB03:=hid (bel HB02.out hb3)
 have hsz3:w.heap.size+1≤w3.heap.size:=by have:=hb3.size;omega
 have hx3:=gY.out.below hb3
 have jI:=hid hx3
 clear hb3 c0 c1 c2
 go_wp2_with fail
 refine(Ba _ _ _ _ _ HB3.out (by rw[o9];have:=HEL.out;simp;omega) hsz3).mono ?_
 rintro e w4 ⟨rfl,hB4,hb4,hk4⟩
 have HB4:Hid (lq (w.heap.size+1) (w.heap.size+1) (E++pps ((mQ l).take 0)) w4):=by
  show lq _ _ _ _
  rw[show(E++pps ((mQ l).take 0))=[]++(strOf E).data.toList by simp[pps,strOf]]
  exact hB4
 have aop:Below w.heap.size w3 w4:=hb4.mono (by omega)
 have HB04:Hid (Below w.heap.size w w4):=HB03.out.trans aop
 have Ae:w.heap.size+1≤w4.heap.size:=by have:=hb4.size;omega
 have hx4:B3 44 w4 w.heap.size (.string T) (.string S) (.slice A n cap):=(hb4.block _ (by omega)).trans jI.out
 obtain⟨c0,c1,c2⟩:=hx4.facts
 clear hB4 hb4 hk4 aop hx4 hx3
 go_upto_region 4 with(fail)
 clear c0 c1 c2
 go_loopw [5,12] (fun _ vk wr=>∃k:Nat,k≤n∧vk=.int .i64 (k:Int)∧Hid (lq (w.heap.size+1) (w.heap.size+1) (E++pps ((mQ l).take k)) wr)∧Hid (Below w.heap.size w wr)∧w.heap.size+1≤wr.heap.size) (fun _ vk _=>n - (intOf vk).toNat)
 case atStart=>exact⟨0,Nat.zero_le _,rfl,HB4.out,HB04.out,Ae⟩
 case round =>
  obtain⟨k,hk,rfl,HB,Z4,hsz⟩:=hrel
  by_cases hlt:k<n
  ·have hkl:k<l.length:=by rw[HL.out];exact hlt
   obtain⟨b,off,rfl,hb,h1,h2⟩:=(HR.out.under Z4.out (Nat.le_refl _)).2 k hkl
   have hz:=HF.out l[k] (List.getElem_mem hkl)
   have hTk:=OZ l k hkl
   have hPk:=HP.out (k+1) hkl
   obtain⟨s1,hs1⟩:∃s,s=l[k].1:=⟨_,rfl⟩
   obtain⟨s2,hs2⟩:∃s,s=l[k].2:=⟨_,rfl⟩
   rw[←hs1]at h1 hz hTk
   rw[←hs2]at h2 hz hTk
   have HTK:=hid hTk
   obtain⟨P,hP⟩:∃P,P=E++pps ((mQ l).take k):=⟨_,rfl⟩
   have HPN:Hid (E++pps ((mQ l).take (k+1))=P++Q9 (s1.data.toList,s2.data.toList)):=by
    show _=_
    rw[hTk,Rh,hP,List.append_assoc]
   have hPl:P.length≤20000:=by rw[hP];have:=HP.out k (by omega);omega
   have vW:=hid hPl
   rw[←hP]at HB
   have hki:(k:Int)<(n:Int):=by omega
   obtain⟨X,hX⟩:∃X,X=59::s1.data.toList:=⟨_,rfl⟩
   obtain⟨Y,hY⟩:∃Y,Y=X++[61]:=⟨_,rfl⟩
   have hYl:Y.length≤202:=by rw[hY,hX];simp only[List.length_append,List.length_cons,dl,List.length_nil];omega
   have a1:∀w:World,(Op.stringOp .add ⟨#[59]⟩ s1).run Tryz.prog w=.ok (.string (strOf X)) w:=fun w=>by rw[hX];exact dL ⟨#[59]⟩ s1 w (by show 1+s1.size≤_;omega)
   have a2:∀w:World,(Op.stringOp .add (strOf X) ⟨#[61]⟩).run Tryz.prog w=.ok (.string (strOf Y)) w:=fun w=>by rw[hY];exact dL _ ⟨#[61]⟩ w (by rw[o9,hX];simp only[List.length_cons,dl];show _+1≤_;omega)
   have HST:Hid (∀v,v=Au s2.data.toList→P++Y++v=E++pps ((mQ l).take (k+1))):=by
    intro v hv
    rw[HPN.out,hY,hX]
    exact aeg _ _ _ _ hv
   have HYL:=hid hYl
   have HIS:=hid (fun w=>Gn.QC s2 w (by omega))
   have HQU:=hid (fun w=>TokS.air s2 w (by omega))
   have hs2z:s2.size≤200:=by omega
   have hpv:Au s2.data.toList=if dP s2.data.toList=true then s2.data.toList else qq s2.data.toList:=rfl
   have hqq:=ane s2.data.toList
   rw[dl]at hqq
   obtain⟨t,ht⟩:∃t,t=dP s2.data.toList:=⟨_,rfl⟩
   rw[←ht]at HIS hpv
   obtain⟨Q,hQ⟩:∃Q:ByteArray,Q=strOf (qq s2.data.toList):=⟨_,rfl⟩
   rw[←hQ]at HQU
   have hQd:Q.data.toList=qq s2.data.toList:=by rw[hQ];rfl
   have hQl:Q.size≤402:=by rw[hQ,o9];omega
   rw[←hQd]at hpv
   have HPV:=hid hpv
   have HQL:=hid hQl
   clear hs1 hs2 hkl hTk hPk hP hPl hX hY hYl hpv hqq ht hQ hQd hQl hz
   go_upto_region 6 with(fail)
   generalize bI:wr.alloc _=wa
   have hba:Below wr.heap.size wr wa:=by rw[←bI];exact(Below.refl _ _).alloc (Nat.le_refl _) _
   have hxa:B2 130 wa wr.heap.size (.string s1) (.string s2):=by show B2 _ _ _ _ _;rw[←bI];exact heap_alloc_new _ _
   have HBa:=hid (gZ HB.out hba)
   have HBLa:=hid (bel Z4.out hba)
   have hsza:w.heap.size+1≤wa.heap.size:=by have:=hba.size;omega
   have HXa:=hid hxa
   obtain⟨k0,k1⟩:=hxa.facts
   have Za:Hid (wr.heap.size≠w.heap.size+1):=by
    show _≠_
    intro e
    have h3:=hB3lt HB.out
    omega
   clear bI hba hxa h1 h2
   go_wp2_with fail
   clear k0 k1 a1 a2
   refine(Ba _ _ _ _ _ HBa.out (by rw[o9];have:=HYL.out;have:=vW.out;simp;omega) hsza).mono ?_
   rintro e w5 ⟨rfl,hB5,hb5,hk5⟩
   have iG:Hid (lq (w.heap.size+1) (w.heap.size+1) (P++Y) w5):=hB5
   have aoq:Below w.heap.size wa w5:=hb5.mono (by omega)
   have xZ:Hid (Below w.heap.size w w5):=HBLa.out.trans aoq
   have hsz5:w.heap.size+1≤w5.heap.size:=by have:=hb5.size;omega
   have hx5:B2 130 w5 wr.heap.size (.string s1) (.string s2):=hk5 _ _ _ _ Za.out HTY.out HXa.out
   obtain⟨k0,k1⟩:=hx5.facts
   clear hB5 hb5 aoq hk5 hx5
   go_wp2_with fail
   refine(HIS.out _).mono ?_
   rintro e w6 ⟨rfl,hw6⟩
   subst hw6
   cases t with
   |true=>
    have ahG:Hid (s2.data.toList=Au s2.data.toList):=by show _=_;rw[HPV.out,if_pos rfl]
    go_wp2_with fail
    clear k0 k1
    refine(Ba _ _ _ _ _ iG.out (by have:=HYL.out;have:=vW.out;simp;omega) hsz5).mono ?_
    rintro e w7 ⟨rfl,hB7,hb7,_⟩
    have kZ:Hid (lq (w.heap.size+1) (w.heap.size+1) (E++pps ((mQ l).take (k+1))) w7):=by
     show lq _ _ _ _
     rw[←HST.out _ ahG.out]
     exact hB7
    have ai3:Below w.heap.size w5 w7:=hb7.mono (by omega)
    have ai4:w.heap.size+1≤w7.heap.size:=by have:=hb7.size;omega
    clear hB7 hb7
    go_wp2
    go_roundw
    case rel=>exact⟨k+1,by omega,by go_num,kZ.out,xZ.out.trans ai3,ai4⟩
    case measure=>simp[intOf];omega
   |false=>
    have ahG:Hid (Q.data.toList=Au s2.data.toList):=by show _=_;rw[HPV.out,if_neg (by simp)]
    go_wp2_with fail
    clear k0 k1
    refine(HQU.out _).mono ?_
    rintro e w6 ⟨rfl,hb6⟩
    have nN:=hid (gZ iG.out hb6)
    have HBL6:=hid (bel xZ.out hb6)
    have ajz:w.heap.size+1≤w6.heap.size:=by have:=hb6.size;omega
    clear hb6
    go_wp2_with fail
    refine(Ba _ _ _ _ _ nN.out (by have:=HYL.out;have:=vW.out;have:=HQL.out;simp;omega) ajz).mono ?_
    rintro e w7 ⟨rfl,hB7,hb7,_⟩
    have kZ:Hid (lq (w.heap.size+1) (w.heap.size+1) (E++pps ((mQ l).take (k+1))) w7):=by
     show lq _ _ _ _
     rw[←HST.out _ ahG.out]
     exact hB7
    have ai3:Below w.heap.size w6 w7:=hb7.mono (by omega)
    have ai4:w.heap.size+1≤w7.heap.size:=by have:=hb7.size;omega
    clear hB7 hb7
    go_wp2
    go_roundw
    case rel=>exact⟨k+1,by omega,by go_num,kZ.out,HBL6.out.trans ai3,ai4⟩
    case measure=>simp[intOf];omega
  ·obtain rfl:k=n:=by omega
   rw[←HV.out]at HB
   go_wp2_with fail
   refine(qL _ _ _ _ HB.out hsz).mono ?_
   rintro e w7 ⟨rfl,hb7⟩
   go_wp2
   go_ret
   exact⟨rfl,Z4.out.trans (hb7.mono (by omega))⟩
end Go.Proofs.YtgamccijegollaaGreatDoor.NH
namespace Go.Proofs.YtgamccijegollaaGreatDoor.J6
open Go.RowKit Base Dp cO pU qg OW NG OX oG sV BG NH rC
theorem aaS (l:List (ByteArray×ByteArray)) (k:Nat) (h:k<l.length):yU (mQ l) k=(RG l[k].1.data.toList&&(!(GH l[k].1.data.toList ((mQ l).take k))&&CV.quotable l[k].2.data.toList)):=by
 unfold yU
 rw[List.getElem?_eq_getElem (by rw[qO];exact h)]
 simp[mQ]
theorem abt {l:List (ByteArray×ByteArray)} {k:Nat} (h:k<l.length) (ho:yU (mQ l) k=false) (T S:List UInt8):fD T S (mQ l)=false:=by
 unfold fD G7
 rw[aiz _ k ho _ (by rw[qO];exact h)]
 simp
def adF (T S:ByteArray) (l:List (ByteArray×ByteArray)):Prop:=l.length≤1048576∧T.size≤1048576∧S.size≤1048576∧∀p ∈ l,p.1.size≤1048576∧p.2.size≤1048576
theorem vY.mid {T S:ByteArray} {l:List (ByteArray×ByteArray)} (h:vY T S l):adF T S l:=⟨by have:=h.1;omega,by have:=h.2.1;omega,by have:=h.2.1;omega,fun p hp=>by have:=h.2.2 p hp;omega⟩
theorem zi (T S:ByteArray) (A:Option Addr) (n cap:Nat) (l:List (ByteArray×ByteArray)) (w:World) (hr:zH w A n l) (hc:n≤cap) (hm:cap≤maxLen) (hF:adF T S l):
  Calls Tryz.prog 86 #[.agg #[.string T,.string S,.slice A n cap]] w fun e w'=>e=.returned (.bool (fD T.data.toList S.data.toList (mQ l)))∧Below w.heap.size w w':=by
 unfold maxLen at hm
 obtain⟨hf1,hf2,hf4,hf3⟩:=hF
 have hl:l.length=n:=hr.1
 have HL:=hid hl
 have HR:=hid hr
 have HF:=hid hf3
 have hmm:=@run_makeMap Tryz.prog
 have hTs:=fun w=>uJ T w (by omega)
 have XK:=fun w=>uJ S w (by omega)
 obtain⟨V,hV⟩:∃V,V=fD T.data.toList S.data.toList (mQ l):=⟨_,rfl⟩
 rw[←hV]
 obtain⟨tb,htb⟩:∃b,b=RG T.data.toList:=⟨_,rfl⟩
 obtain⟨sb,hsb⟩:∃b,b=RG S.data.toList:=⟨_,rfl⟩
 have hV2:=hV
 unfold fD at hV2
 rw[←htb,←hsb]at hV2
 rw[←htb]at hTs
 rw[←hsb]at XK
 have qc:Hid (∀k,(h:k<l.length)→yU (mQ l) k=false→V=false):=by
  intro k h ho
  rw[hV]
  exact abt h ho _ _
 have HV:=hid hV2
 have HTS:=hid hTs
 have F9:=hid XK
 have hn20:n≤1048576:=by omega
 clear hr hl hV hV2 htb hsb hTs XK hf1 hf3
 go_enter Tryz.func86,Tryz.ntmps86
 go_upto_region 1 with(fail)
 generalize hw1:w.alloc _=w1
 have HB1:Hid (Below w.heap.size w w1):=by show Below _ _ _;rw[←hw1];exact(Below.refl _ _).alloc (Nat.le_refl _) _
 have hx1:B3 44 w1 w.heap.size (.string T) (.string S) (.slice A n cap):=by
  rw[←hw1]
  exact heap_alloc_new w _
 have kP:=hid hx1
 obtain⟨c0,c1,c2⟩:=hx1.facts
 clear hw1 hx1
 go_wp2_with fail
 clear c0 c1 c2
 refine(HTS.out _).mono ?_
 rintro e w2 ⟨rfl,hb2⟩
 have HB2:=hid (bel HB1.out hb2)
 have hx2:=kP.out.below hb2
 have gY:=hid hx2
 obtain⟨c0,c1,c2⟩:=hx2.facts
 clear hb2 hx2
 cases tb with
 |false=>
  have HE:Hid (V=false):=by show _=_;rw[HV.out];rfl
  go_wp2
  go_ret
  exact⟨ak (by rw[HE.out]),HB2.out⟩
 | true =>
  go_wp2_with fail
  clear c0 c1 c2
  refine(F9.out _).mono ?_
  rintro e w3 ⟨rfl,hb3⟩
  have HB3:=hid (bel HB2.out hb3)
  have hx3:=gY.out.below hb3
  have jI:=hid hx3
  obtain⟨c0,c1,c2⟩:=hx3.facts
  clear hb3 hx3
  cases sb with
  |false=>
   have HE:Hid (V=false):=by show _=_;rw[HV.out];rfl
   go_wp2
   go_ret
   exact⟨ak (by rw[HE.out]),HB3.out⟩
  | true =>
   have Zj:Hid (V=qG (mQ l) n):=by show _=_;rw[HV.out,←HL.out,←qO l];rfl
   clear c0 c1 c2
   go_upto_region 4 with(fail)
   clear hmm
   generalize hw4:w3.alloc _=w4
   have HS4:Hid (Says w4 w3.heap.size 0 []):=by show Says _ _ _ _;rw[←hw4];exact Says.made w3
   have HB4:Hid (Below w.heap.size w w4):=by show Below _ _ _;rw[←hw4];exact HB3.out.alloc HB3.out.size _
   have hx4:B3 44 w4 w.heap.size (.string T) (.string S) (.slice A n cap):=by rw[←hw4];exact jI.out.below ((Below.refl _ _).alloc (Nat.le_refl _) _)
   obtain⟨c0,c1,c2⟩:=hx4.facts
   obtain⟨gm,hgm⟩:∃g,g=w3.heap.size:=⟨_,rfl⟩
   rw[←hgm]at HS4⊢
   have HGM:Hid (w.heap.size≤gm):=by show _≤_;rw[hgm];exact HB3.out.size
   clear hw4 hx4 hgm
   go_upto_region 5 with(fail)
   clear c0 c1 c2
   go_loopw [5,20] (fun _ vk wr=>∃(k:Nat) (names:List (List UInt8)),k≤n∧vk=.int .i64 (k:Int)∧Hid (Says wr gm k names)∧Hid (∀x,x ∈ names↔x ∈ ((mQ l).take k).map (·.1))∧Hid (Below w.heap.size w wr)∧Hid (qG (mQ l) k=true)) (fun _ vk _=>n - (intOf vk).toNat)
   case atStart=>exact⟨0,[],Nat.zero_le _,rfl,HS4.out,by show ∀x,_;simp,HB4.out,rfl⟩
   case round=>
    obtain⟨k,names,hk,rfl,HM,HN,HB,HK⟩:=hrel
    by_cases hlt:k<n
    ·have hkl : k < l.length := by rw [HL.out]; exact hlt
     obtain⟨b,off,rfl,hb,h1,h2⟩:=(HR.out.under HB.out (Nat.le_refl _)).2 k hkl
     have hz:=HF.out l[k] (List.getElem_mem hkl)
     have hTk:=OZ l k hkl
     have hok:=aaS l k hkl
     have hno:=qc.out k hkl
     obtain⟨s1,hs1⟩:∃s,s=l[k].1:=⟨_,rfl⟩
     obtain⟨s2,hs2⟩:∃s,s=l[k].2:=⟨_,rfl⟩
     rw[←hs1]at h1 hz hTk hok
     rw[←hs2]at h2 hz hTk hok
     rw[Qu _ _ _ HN.out]at hok
     have hsucc:=Nl (mQ l) k
     rw[HK.out,Bool.true_and]at hsucc
     have HTK:=hid hTk
     have hsm:=fun w=>uJ s1 w (by omega)
     have hqu:=fun w=>CV.Jo s2 w (by omega)
     obtain⟨m1,hm1⟩:∃b,b=RG s1.data.toList:=⟨_,rfl⟩
     obtain⟨q2,hq2⟩:∃b,b=CV.quotable s2.data.toList:=⟨_,rfl⟩
     rw[←hm1]at hok hsm
     rw[←hq2]at hok hqu
     have JO:=hid hsm
     have HQU:=hid hqu
     have hki:(k:Int)<(n:Int):=by omega
     have hs1z:s1.size≤1048576:=by omega
     have HOK:=hid hok
     have acC:=hid hno
     have HSU:=hid hsucc
     clear hs1 hs2 hkl hTk hok hno hsucc hm1 hq2 hsm hqu hz
     go_upto_region 7 with(fail)
     generalize bI:wr.alloc _=wa
     have hxa:B2 130 wa wr.heap.size (.string s1) (.string s2):=by show B2 _ _ _ _ _;rw[←bI];exact heap_alloc_new _ _
     have HXa:=hid hxa
     have HMa:Hid (Says wa gm k names):=by show Says _ _ _ _;rw[←bI];exact HM.out.below ((Below.refl _ _).alloc (Nat.le_refl _) _)
     have HBa:Hid (Below w.heap.size w wa):=by show Below _ _ _;rw[←bI];exact HB.out.alloc HB.out.size _
     have Za:Hid (gm≠wr.heap.size):=by show _≠_;have:=HM.out.lt;omega
     obtain⟨k0,k1⟩:=hxa.facts
     clear bI hxa h1 h2
     go_wp2_with fail
     clear k0 k1
     refine(JO.out _).mono ?_
     rintro e w5 ⟨rfl,hb5⟩
     have HM5:=hid (HMa.out.below hb5)
     have iG:=hid (bel HBa.out hb5)
     have hx5:=HXa.out.below hb5
     have Zk:=hid hx5
     obtain⟨k0,k1⟩:=hx5.facts
     clear hb5 hx5
     cases m1 with
     |false=>
      have HE:Hid (V=false):=acC.out (by rw[HOK.out];rfl)
      go_wp2
      go_ret
      exact⟨ak (by rw[HE.out]),iG.out⟩
     | true=>
      have hlk:=HM5.out.look s1 (by unfold maxLen;omega)
      by_cases hmem:s1.data.toList ∈ names
      ·have HE:Hid (V=false):=acC.out (by rw[HOK.out,decide_eq_true hmem];rfl)
       rw[if_pos hmem]at hlk
       clear hmem
       go_wp2
       go_ret
       exact⟨ak (by rw[HE.out]),iG.out⟩
      ·rw [if_neg hmem] at hlk
       have HOK2:Hid (yU (mQ l) k=q2):=by show _=_;rw[HOK.out,decide_eq_false hmem];rfl
       clear hmem
       go_wp2_with fail
       clear k0 k1 hlk
       refine(HQU.out _).mono ?_
       rintro e w6 ⟨rfl,hb6⟩
       have HM6:=hid (HM5.out.below hb6)
       have nN:=hid (bel iG.out hb6)
       have hx6:=Zk.out.below hb6
       obtain⟨k0,k1⟩:=hx6.facts
       clear hb6 hx6
       cases q2 with
       |false=>
        have HE:Hid (V=false):=acC.out HOK2.out
        go_wp2
        go_ret
        exact⟨ak (by rw[HE.out]),nN.out⟩
       |true=>
        obtain⟨w7,hput,hS7,hg7⟩:=HM6.out.put s1 (by unfold maxLen;omega) (by unfold maxLen;omega)
        have HS7:=hid hS7
        have kZ:Hid (Below w.heap.size w w7):=nN.out.grown hg7 nN.out.size (fun g hg=>by injection hg with hg;rw[←hg];exact HGM.out)
        have HK7:Hid (qG (mQ l) (k+1)=true):=by show _=_;rw[HSU.out,HOK2.out]
        have HN7:Hid (∀x,x ∈ s1.data.toList::names↔x ∈ ((mQ l).take (k+1)).map (·.1)):=by
         show ∀x,_
         intro x
         rw[HTK.out]
         have:=HN.out x
         simp only[List.mem_cons,List.map_append,List.mem_append,this]
         simp
         exact Or.comm
        clear hS7 hg7
        go_wp2
        go_roundw
        case rel=>exact⟨k+1,s1.data.toList::names,by omega,by go_num,HS7.out,HN7.out,kZ.out,HK7.out⟩
        case measure=>simp[intOf];omega
    ·obtain rfl:k=n:=by omega
     have HE:Hid (V=true):=by show _=_;rw[Zj.out,HK.out]
     go_wp2
     go_ret
     exact⟨ak (by rw[HE.out]),HB.out⟩
end Go.Proofs.YtgamccijegollaaGreatDoor.J6
namespace Go.Proofs.YtgamccijegollaaGreatDoor.J7
open Go.RowKit Base Dp cO pU qg OW NG OX oG sV BG NH J6 rC
theorem ext_str {a b:ByteArray} (h:a.data.toList=b.data.toList):a=b:=by
 cases a;cases b;simp at h;subst h;rfl
theorem XH (a b:ByteArray):(a.toList==b.toList)=decide (a=b):=by
 rw[XG,Bool.eq_iff_iff,decide_eq_true_iff,decide_eq_true_iff]
 exact⟨ext_str,fun h=>by rw[h]⟩
theorem xU (a b:ByteArray):a.toList=b.toList↔a=b:=by
 rw[Lib.toList_data,Lib.toList_data]
 exact⟨ext_str,fun h=>by rw[h]⟩
theorem abM {l m:List (ByteArray×ByteArray)} {k:Nat} (h:k<l.length) (h2:k<m.length) (ht:l.take k=m.take k) (e:l[k]=m[k]):l.take (k+1)=m.take (k+1):=by
 rw[List.take_succ_eq_append_getElem h,List.take_succ_eq_append_getElem h2,ht,e]
theorem below_drewN' (w:World) (n:Nat):Below w.heap.size w (w.drewN n):=Base.below_drewN (Below.refl _ _) n
theorem EF (A A2:Option Addr) (n n2 cap cap2:Nat) (l m:List (ByteArray×ByteArray)) (w:World) (hR:zH w A n l) (hR2:zH w A2 n2 m) (hc:n≤cap) (hm:cap≤maxLen) (hc2:n2≤cap2) (hm2:cap2≤maxLen):
  Calls Tryz.prog 91 #[.slice A n cap,.slice A2 n2 cap2] w fun e w'=>e=.returned (.bool (decide (l=m)))∧Below w.heap.size w w':=by
 unfold maxLen at hm hm2
 have hn:l.length=n:=hR.1
 have hn2:m.length=n2:=hR2.1
 have HN:=hid hn
 have xE:=hid hn2
 have HR:=hid hR
 have HR2:=hid hR2
 clear hR hR2 hn hn2
 by_cases he:n=n2
 ·obtain rfl:=he
  have q1:((n:Int)==(n:Int))=true:=by simp
  have q2:((n:Int) !=(n:Int))=false:=by simp
  go_enter Tryz.func91,Tryz.ntmps91
  go_wp2
  go_loopw [5,13] (fun _ vk wr=>∃k:Nat,k≤n∧vk=.int .i64 (k:Int)∧Hid (l.take k=m.take k)∧Hid (Below w.heap.size w wr)) (fun _ vk _=>n - (intOf vk).toNat)
  case atStart=>exact⟨0,Nat.zero_le _,rfl,rfl,Below.refl _ _⟩
  case round =>
   obtain⟨k,hk,rfl,HT,Z4⟩:=hrel
   by_cases hlt:k<n
   ·have hkl:k<l.length:=by rw[HN.out];exact hlt
    have hkm:k<m.length:=by rw[xE.out];exact hlt
    obtain⟨b,off,rfl,hb,h1,h2⟩:=(HR.out.under Z4.out (Nat.le_refl _)).2 k hkl
    obtain⟨b2,off2,rfl,hb2,h3,h4⟩:=(HR2.out.under Z4.out (Nat.le_refl _)).2 k hkm
    have HTT:=hid (abM hkl hkm HT.out)
    have HX:Hid (l[k]≠m[k]→l≠m):=by
     intro e1 e2
     subst e2
     exact e1 rfl
    obtain⟨⟨s1,s2⟩,hs⟩:∃s,s=l[k]:=⟨_,rfl⟩
    obtain⟨⟨t1,t2⟩,ht⟩:∃s,s=m[k]:=⟨_,rfl⟩
    rw[←hs]at h1 h2 HX HTT
    rw[←ht]at h3 h4 HX HTT
    clear hs ht hkl hkm hb hb2
    have hki:(k:Int)<(n:Int):=by omega
    simp only[]at h1 h2 h3 h4
    by_cases e1:s1=t1
    ·by_cases e2:s2=t2
     ·have HY:Hid (l.take (k+1)=m.take (k+1)):=HTT.out (by rw[e1,e2])
      have p1:=(xU s1 t1).2 e1
      have p2:=(xU s2 t2).2 e2
      have HE1:=hid e1
      have HE2:=hid e2
      clear e1 e2
      go_wp2_with fail
      go_quiet (fail)
      have hbq:=Z4.out.trans ((below_drewN' wr nq).mono Z4.out.size)
      generalize wr.drewN nq=wq at hbq⊢
      go_wp2
      go_roundw
      case rel=>exact⟨k+1,by omega,by go_num,HY.out,hbq⟩
      case measure=>simp[intOf];omega
     ·have HE:Hid (decide (l=m)=false):=decide_eq_false (HX.out (fun h=>e2 (by injection h)))
      have p1:=(xU s1 t1).2 e1
      have p2:¬s2.toList=t2.toList:=fun h=>e2 ((xU s2 t2).1 h)
      have HE1:=hid e1
      have HE2:=hid e2
      clear e1 e2
      go_wp2_with fail
      go_quiet (fail)
      have hbq:=Z4.out.trans ((below_drewN' wr nq).mono Z4.out.size)
      generalize wr.drewN nq=wq at hbq⊢
      go_wp2
      go_ret
      exact⟨ak HE.out.symm,hbq⟩
    ·have HE:Hid (decide (l=m)=false):=decide_eq_false (HX.out (fun h=>e1 (by injection h)))
     have p1:¬s1.toList=t1.toList:=fun h=>e1 ((xU s1 t1).1 h)
     have HE1:=hid e1
     clear e1
     go_wp2_with fail
     go_quiet (fail)
     have hbq:=Z4.out.trans ((below_drewN' wr nq).mono Z4.out.size)
     generalize wr.drewN nq=wq at hbq⊢
     go_wp2
     go_ret
     exact⟨ak HE.out.symm,hbq⟩
   ·obtain rfl:k=n:=by omega
    have HE:Hid (decide (l=m)=true):=decide_eq_true (by
     have h:=HT.out
     rw[List.take_of_length_le (by rw[HN.out];exact Nat.le_refl _),List.take_of_length_le (by rw[xE.out];exact Nat.le_refl _)]at h
     exact h)
    go_wp2
    go_ret
    exact⟨ak HE.out.symm,Z4.out⟩
 ·have q1:((n:Int)==(n2:Int))=false:=by simp;omega
  have q2:((n:Int) !=(n2:Int))=true:=by simp;omega
  have HE:Hid (decide (l=m)=false):=decide_eq_false (fun h=>he (by rw[←HN.out,←xE.out,h]))
  clear he
  go_enter Tryz.func91,Tryz.ntmps91
  go_wp2
  go_ret
  exact⟨ak HE.out.symm,Below.refl _ _⟩
def Jz (T S:ByteArray) (l:List (ByteArray×ByteArray)) (T2 S2:ByteArray) (m:List (ByteArray×ByteArray)):Bool:=decide (T=T2)&&(decide (S=S2)&&decide (l=m))
theorem JA (T S:ByteArray) (A:Option Addr) (n cap:Nat) (l:List (ByteArray×ByteArray)) (T2 S2:ByteArray) (A2:Option Addr) (n2 cap2:Nat) (m:List (ByteArray×ByteArray)) (w:World) (hR:zH w A n l) (hR2:zH w A2 n2 m) (hc:n≤cap) (hm:cap≤maxLen) (hc2:n2≤cap2) (hm2:cap2≤maxLen):
  Calls Tryz.prog 35 #[.agg #[.string T,.string S,.slice A n cap],.agg #[.string T2,.string S2,.slice A2 n2 cap2]] w fun e w'=>e=.returned (.bool (Jz T S l T2 S2 m))∧Below w.heap.size w w':=by
 have q1:=XH T T2
 have q2:=XH S S2
 obtain⟨b1,hb1⟩:∃b,b=decide (T=T2):=⟨_,rfl⟩
 obtain⟨b2,hb2⟩:∃b,b=decide (S=S2):=⟨_,rfl⟩
 obtain⟨b3,hb3⟩:∃b,b=decide (l=m):=⟨_,rfl⟩
 have HV:Hid (Jz T S l T2 S2 m=(b1&&(b2&&b3))):=by show _=_;rw[hb1,hb2,hb3];rfl
 rw[←hb1]at q1
 rw[←hb2]at q2
 have Tz:=hid (fun(w':World) (h:Below w.heap.size w w')=>EF A A2 n n2 cap cap2 l m w' (hR.under h (Nat.le_refl _)) (hR2.under h (Nat.le_refl _)) hc hm hc2 hm2)
 rw[←hb3]at Tz
 clear hb1 hb2 hb3 hR hR2
 cases b1 with
 |false=>
  go_enter Tryz.func35,Tryz.ntmps35
  go_wp2
  go_ret
  exact⟨ak (by rw[HV.out];rfl),((Below.refl _ _).alloc (Nat.le_refl _) _).alloc (by simp) _⟩
 |true=>
  cases b2 with
  |false=>
   go_enter Tryz.func35,Tryz.ntmps35
   go_wp2
   go_ret
   exact⟨ak (by rw[HV.out];rfl),((Below.refl _ _).alloc (Nat.le_refl _) _).alloc (by simp) _⟩
  |true=>
   go_enter Tryz.func35,Tryz.ntmps35
   go_wp2_with fail
   refine(Tz.out _ (((Below.refl _ _).alloc (Nat.le_refl _) _).alloc (by simp) _)).mono ?_
   rintro e w2 ⟨rfl,hb2⟩
   go_wp2
   go_ret
   exact⟨ak (by rw[HV.out];first|rfl|simp),(((Below.refl _ _).alloc (Nat.le_refl _) _).alloc (by simp) _).trans (hb2.mono (by simp;omega))⟩
end Go.Proofs.YtgamccijegollaaGreatDoor.J7
namespace Go.Proofs.YtgamccijegollaaGreatDoor.OY
open Go.RowKit Base Dp cO pU qg NG OX oG sV BG NH J6 J7 rC
theorem Yb {t:List UInt8} {p:List UInt8×List UInt8} (h:(pm t).1=some p):p.2.length≤t.length:=by
 unfold pm at h
 split at h
 ·cases h
 rename_i c r hd
 have h1:=zX [59,61] (tl t)
 have h2:=Hl t
 rw[hd]at h1
 simp at h1
 split at h
 ·cases h
 simp only[]at h
 split at h
 ·injection h with h
  subst h
  have:=SK r
  show(vl r).1.length≤_
  omega
 cases h
theorem VO:∀(n:Nat) (r:List UInt8) (acc:PL) (N:Nat),r.length≤N→(∀p ∈ acc,p.1.length≤N∧p.2.length≤N)→(∀p ∈ prF n r acc,p.1.length≤N∧p.2.length≤N)∧(prF n r acc).length≤acc.length+r.length
 |0,r,acc,N,_,h=>⟨h,by show acc.length≤_;omega⟩
 |_+1,[],acc,N,_,h=>⟨h,by show acc.length≤_;omega⟩
 | n + 1, c :: t, acc, N, hr, h => by
  rw[prF]
  have hp:=Ya t
  simp at hr
  have hadd : (∀ p ∈ Kt acc (pm t).1, p.1.length ≤ N ∧ p.2.length ≤ N) ∧ (Kt acc (pm t).1).length ≤ acc.length + 1 := by
   unfold Kt
   split
   ·exact⟨h,by omega⟩
   ·rename_i p hp
    split
    ·exact⟨h,by omega⟩
    ·refine⟨fun q hq=>?_,by simp⟩
     rcases List.mem_append.1 hq with hq|hq
     ·exact h q hq
     ·simp at hq
      subst hq
      have h1:=Na hp
      have h2:=Yb hp
      omega
  have ih:=VO n (pm t).2 (Kt acc (pm t).1) N (by omega) hadd.1
  refine⟨ih.1,?_⟩
  have:=ih.2
  have:=hadd.2
  simp
  omega
theorem adY {s:List UInt8} {m:MT} (h:mime s=some m):m.ty.length≤s.length∧m.sub.length≤s.length∧m.ps.length≤s.length∧∀p ∈ m.ps,p.1.length≤s.length∧p.2.length≤s.length:=by
 have ht:=agx s
 have h1:=AY [47] (ru s)
 have h2:=zX [47] (ru s)
 unfold mime at h
 split at h
 ·cases h
 rename_i c B hB
 rw[hB]at h2
 simp at h2
 split at h
 ·injection h with h
  subst h
  have h3:=AY [59] B
  have h4:=zX [59] B
  have h5:=Sl (tw [59] B)
  have h6:=VO (dw [59] B).length (dw [59] B) [] s.length (by omega) (by simp)
  refine⟨?_,?_,?_,h6.1⟩
  ·simp[lower];omega
  ·simp[lower];omega
  have:=h6.2
  show(uj (dw [59] B) []).length≤_
  unfold uj
  simp at this
  omega
 cases h
theorem mid_of {s:List UInt8} {o:Option MT} (h:mime s=o) (hs:s.length≤1048576):adF (strOf (o.getD Oe).ty) (strOf (o.getD Oe).sub) (nY (o.getD Oe).ps):=by
 cases o with
 |none=>exact⟨by simp[nY,Oe],by decide,by decide,by simp[nY,Oe]⟩
 |some m=>
  obtain⟨h1,h2,h3,h4⟩:=adY h
  refine⟨by rw[Ye];show m.ps.length≤_;omega,by rw[o9];show m.ty.length≤_;omega,by rw[o9];show m.sub.length≤_;omega,?_⟩
  intro p hp
  obtain⟨q,hq,rfl⟩:=List.mem_map.1 hp
  have:=h4 q hq
  show(strOf q.1).size≤_∧(strOf q.2).size≤_
  rw[o9,o9]
  omega
theorem Ls (T S:ByteArray) (l:List (ByteArray×ByteArray)):Jz T S l T S l=true:=by unfold Jz;simp
end Go.Proofs.YtgamccijegollaaGreatDoor.OY
namespace Go.Proofs.YtgamccijegollaaGreatDoor.acs
open Go.RowKit Base Dp cO wS mW wo UG rC qg oG JY Ce YX J7 OY jQ pO vZ
open Go.Proofs.YtgamccijegollaaGreatDoor.aZ (adw)
structure Mp (w:World) (M:MT) (A:Option Addr) (c:Nat):Prop where
 nc:M.ps.length≤c
 cm:c≤maxLen
 prm:zH w A M.ps.length (nY M.ps)
theorem Mp.below {w w':World} {M:MT} {A:Option Addr} {c:Nat} (h:Mp w M A c) (hb:Below w.heap.size w w'):Mp w' M A c:=⟨h.nc,h.cm,h.prm.below hb⟩
structure Bp (w:World) (B:List UInt8) (A:Option Addr) (c:Nat):Prop where
 nc:B.length≤c
 cm:c≤maxLen
 zB:aY w A B.length (ah B)
theorem Bp.below {w w':World} {B:List UInt8} {A:Option Addr} {c:Nat} (h:Bp w B A c) (hb:Below w.heap.size w w'):Bp w' B A c:=⟨h.nc,h.cm,h.zB.below hb⟩
theorem dat_r {M:MT} {B:List UInt8} {er:Int} {e:Ending} {w':World} (h:DatR M B er e w'):∃A c A2 c2,e=.returned (.tuple #[.agg #[.string (strOf M.ty),.string (strOf M.sub),.slice A M.ps.length c],.slice A2 B.length c2,.int .i64 er])∧Mp w' M A c∧Bp w' B A2 c2:=by
 obtain⟨A,c,A2,c2,h1,h2,h3,h4,h5,h6,h7⟩:=h
 exact⟨A,c,A2,c2,h1,⟨h2,h3,h4⟩,⟨h5,h6,h7⟩⟩
theorem PI {u:U} {N:Nat} (h:u.au.length+u.usr.length+u.MX.length+u.hst.length+u.txt.length+u.dY.length+(aZ.aO u.aO).length≤N) (hl: -9223372036854775808≤u.port) (hh:u.port≤9223372036854775807):(Bl u).length≤N+60:=by
 have hp:(aZ.kK u.port).length≤21:=Pg.Rf u.port hl hh
 have hc:(aZ.lD (strOf u.usr) (strOf u.MX)).length≤u.usr.length+u.MX.length+2:=by
  unfold aZ.lD
  have e1:(strOf u.usr).data.toList=u.usr:=rfl
  have e2:(strOf u.MX).data.toList=u.MX:=rfl
  rw[e1,e2]
  split
  ·split
   ·simp
   simp only[List.length_append,List.length_cons,List.length_nil];omega
  simp only[List.length_append,List.length_cons,List.length_nil];omega
 have hm:(KU u).length≤u.usr.length+u.MX.length+u.hst.length+25:=by
  unfold KU aZ.ug
  have e1:(strOf u.hst).data.toList=u.hst:=rfl
  rw[e1]
  split
  ·simp only[List.length_append,List.length_cons,List.length_nil];omega
  split
  ·simp only[List.length_cons,List.length_nil];omega
  simp
 have hpl:(aZ.pF u.opq (strOf u.txt) u.aO).length≤u.txt.length+(aZ.aO u.aO).length:=by
  unfold aZ.pF
  have e1:(strOf u.txt).data.toList=u.txt:=rfl
  rw[e1]
  split<;>omega
 have hq:(if u.hq=true then(63:UInt8)::u.dY else[]).length≤u.dY.length+1:=by split<;>simp
 rw[yD]
 simp only[List.length_append,List.length_cons,List.length_nil]
 omega
def FW (u:U):List UInt8:=KU u++aZ.pF u.opq (strOf u.txt) u.aO++(if u.hq then 63::u.dY else[])
theorem ag8 (u:U):Bl u=u.au++58::FW u:=by rw[yD];unfold FW;simp
def Jv (u:U):List UInt8:=Lib.trimPrefix (Bl u) vX
theorem aix {u:U} (h:u.au=DATA):Bl u=vX++Jv u:=by
 unfold Jv Lib.trimPrefix
 have e:Bl u=vX++FW u:=by rw[ag8,h];rfl
 rw[e]
 have hp:Lib.hasPrefix (vX++FW u) vX=true:=by unfold Lib.hasPrefix;rw[List.isPrefixOf_iff_prefix];exact List.prefix_append _ _
 rw[if_pos hp,List.drop_left]
theorem anm (u:U):(Jv u).length≤(Bl u).length:=by
 unfold Jv Lib.trimPrefix
 split
 ·rw[List.length_drop];omega
 exact Nat.le_refl _
def Ig (u:U):MT×List UInt8:=ans u.au (Jv u)
def aai (u:U):Int:=err u.au (Jv u)
structure Rs (w:World) (A:Option Addr) (n:Nat) (l:List ByteArray):Prop where
 zB:aY w A n (l.map Value.string)
theorem Rs.below {w w':World} {A:Option Addr} {n:Nat} {l:List ByteArray} (h:Rs w A n l) (hb:Below w.heap.size w w'):Rs w' A n l:=⟨h.zB.below hb⟩
structure Sh (u:U) (n c:Nat):Prop where
 all:u.au.length+u.usr.length+u.MX.length+u.hst.length+u.txt.length+u.dY.length+(aZ.aO u.aO).length≤750000
 lo: -9223372036854775808≤u.port
 hi:u.port≤9223372036854775807
 nc:n≤c
 cm:c≤maxLen
theorem agl {u:U} {N:Nat} (h:oN.Fit u N) (hN:N≤750000) {w:World} {A:Option Addr} {n c:Nat} (hP:Pt w u A n c):Sh u n c:=by
 have h1:=h.all
 unfold oN.pl at h1
 exact⟨by omega,by have:=h.lo;omega,by have:=h.hi;omega,hP.aO.2.1,hP.aO.2.2⟩
theorem ag7 {u:U} {A:Option Addr} {n c:Nat} (hS:Sh u n c) (w:World) (hR:Rs w A n u.aO) (hT:Tab.Pow w):Calls Tryz.prog 73 #[.agg #[.string (strOf u.au),.string (strOf u.usr),.string (strOf u.MX),.string (strOf u.hst),.bool u.hh,.int .i64 u.port,.bool u.opq,.string (strOf u.txt),.slice A n c,.bool u.hq,.bool u.hf,.string (strOf u.dY),.string (strOf u.fB)]] w fun e w'=>e=.returned (.string (strOf (Bl u)))∧Below w.heap.size w w':=by
 have h:=hS.all
 exact Pg.ZQ (strOf u.au) (strOf u.usr) (strOf u.MX) (strOf u.hst) u.hh u.port u.opq (strOf u.txt) A n c u.aO u.hq u.hf (strOf u.dY) (strOf u.fB) w hR.zB hS.nc hS.cm (by rw[o9];omega) (by rw[o9];omega) (by rw[o9];omega) (by rw[o9];omega) (by rw[o9];omega) (by rw[o9];omega) hS.lo hS.hi (by omega) hT
theorem EW {u:U} {A:Option Addr} {n c:Nat} (hS:Sh u n c) (w:World) (hR:Rs w A n u.aO) (E:Env w):Calls Tryz.prog 27 #[.agg #[.string (strOf u.au),.string (strOf u.usr),.string (strOf u.MX),.string (strOf u.hst),.bool u.hh,.int .i64 u.port,.bool u.opq,.string (strOf u.txt),.slice A n c,.bool u.hq,.bool u.hf,.string (strOf u.dY),.string (strOf u.fB)]] w fun e w'=>(∃A1 c1 A2 c2,e=.returned (.tuple #[.agg #[.string (strOf (Ig u).1.ty),.string (strOf (Ig u).1.sub),.slice A1 (Ig u).1.ps.length c1],.slice A2 (Ig u).2.length c2,.int .i64 (aai u)])∧Mp w' (Ig u).1 A1 c1∧Bp w' (Ig u).2 A2 c2)∧Below w.heap.size w w':=by
 refine(aa9 u A n c (Bl u) (Jv u) w (fun w1 hb=>ag7 hS w1 (hR.below hb) (Tab.Pow.below E.pow hb)) rfl ?_ E.max).mono ?_
 ·have h1:=anm u
  have h2:=PI hS.all hS.lo hS.hi
  omega
 rintro e w' ⟨h1,h2⟩
 exact⟨dat_r h1,h2⟩
end Go.Proofs.YtgamccijegollaaGreatDoor.acs
namespace Go.Proofs.YtgamccijegollaaGreatDoor.al8
open Go.RowKit Base Dp cO pU qg OW NG OX oG sV BG rC Wx agI NH
def FewM (T S:ByteArray) (l:List (ByteArray×ByteArray)):Prop:=l.length≤1048576∧T.size+S.size≤2097152∧∀p ∈ l,p.1.size+p.2.size≤2097152
theorem ajG (s1 s2:ByteArray) (h:s1.size+s2.size≤2097152):(Q9 (s1.data.toList,s2.data.toList)).length≤6291460:=by
 have:=anb s2.data.toList
 rw[dl]at this
 unfold Q9
 simp only[List.length_cons,List.length_append,dl]
 omega
theorem afw {l:List (ByteArray×ByteArray)} (h:∀p ∈ l,p.1.size+p.2.size≤2097152):∀k,k≤l.length→(pps ((mQ l).take k)).length≤6291460*k
 |0,_=>by simp[pps]
 |k+1,hk=>by
  have ih:=afw h k (by omega)
  have:=ajG l[k].1 l[k].2 (h _ (List.getElem_mem _))
  rw[OZ l k (by omega),Rh,List.length_append]
  omega
theorem ajK (T S:ByteArray) (A:Option Addr) (n cap:Nat) (l:List (ByteArray×ByteArray)) (w:World) (hr:zH w A n l) (hc:n≤cap) (hm:cap≤maxLen) (hF:FewM T S l):
  Calls Tryz.prog 49 #[.agg #[.string T,.string S,.slice A n cap]] w fun e w'=>e=.returned (.string (strOf (dS T.data.toList S.data.toList (mQ l))))∧Below w.heap.size w w':=by
 unfold maxLen at hm
 obtain⟨hf1,hf2,hf3⟩:=hF
 have hl:l.length=n:=hr.1
 have HL:=hid hl
 have HR:=hid hr
 have HF:=hid hf3
 have hn20:n≤1048576:=by omega
 obtain⟨E,hE⟩:∃E,E=ess T.data.toList S.data.toList:=⟨_,rfl⟩
 have hEl:E.length≤2097153:=by rw[hE,afp];omega
 have HE:=hid (fun w=>Dn T S (.slice A n cap) w (by omega) (by omega))
 rw[←hE]at HE
 have HP:Hid (∀k,k≤l.length→(E++pps ((mQ l).take k)).length≤2097153+6291460*k):=by
  intro k hk
  have:=afw hf3 k hk
  rw[List.length_append]
  omega
 have HV:Hid (dS T.data.toList S.data.toList (mQ l)=E++pps ((mQ l).take n)):=by
  show _=_
  rw[←hl,ae2,hE]
  rfl
 have HEL:=hid hEl
 have HTY:Hid (130≠5):=by show _≠_;decide
 clear hr hl hf1 hf2 hf3 hE hEl
 go_enter Tryz.func49,Tryz.ntmps49
 go_upto_region 1 with(fail)
 generalize hw1:w.alloc _=w1
 have hb1:Below w.heap.size w w1:=by rw[←hw1];exact(Below.refl _ _).alloc (Nat.le_refl _) _
 have hs1:w1.heap.size=w.heap.size+1:=by rw[←hw1];simp
 have kP:Hid (B3 44 w1 w.heap.size (.string T) (.string S) (.slice A n cap)):=by
  show B3 _ _ _ _ _ _
  rw[←hw1]
  exact heap_alloc_new w _
 clear hw1
 go_upto_region 2 with(fail)
 have HB2:Hid (lq (w.heap.size+1) (w.heap.size+1) [] (w1.alloc (.cells #[.pointer none,.slice none 0 0] 168))):=by
  have h:=Lib.fresh_isBuilder 168 5 w1
  rw[hs1]at h
  exact h
 have XO:Below (w.heap.size+1) w1 (w1.alloc (.cells #[.pointer none,.slice none 0 0] 168)):=(Below.refl _ _).alloc (by rw[hs1];exact Nat.le_refl _) _
 generalize hw2:w1.alloc _=w2 at HB2 XO⊢
 clear hw2
 have hsz1:w.heap.size+1≤w2.heap.size:=by have:=XO.size;omega
 have hx2:B3 44 w2 w.heap.size (.string T) (.string S) (.slice A n cap):=(XO.block _ (by omega)).trans kP.out
 have gY:=hid hx2
 obtain⟨c0,c1,c2⟩:=hx2.facts
 have HB02:Hid (Below w.heap.size w w2):=hb1.trans (XO.mono (by omega))
 have BD:=hid hs1
 clear hx2 hs1 hb1 XO kP
 go_wp2_with fail
 refine(HE.out _).mono ?_
 rintro e w3 ⟨rfl,hb3⟩
 have HB3:=hid (gZ HB2.out hb3)
 have HB03:=hid (bel HB02.out hb3)
 have hsz3:w.heap.size+1≤w3.heap.size:=by have:=hb3.size;omega
 have hx3:=gY.out.below hb3
 have jI:=hid hx3
 clear hb3 c0 c1 c2
 go_wp2_with fail
 refine(Ba _ _ _ _ _ HB3.out (by rw[o9];have:=HEL.out;simp;omega) hsz3).mono ?_
 rintro e w4 ⟨rfl,hB4,hb4,hk4⟩
 have HB4:Hid (lq (w.heap.size+1) (w.heap.size+1) (E++pps ((mQ l).take 0)) w4):=by
  show lq _ _ _ _
  rw[show(E++pps ((mQ l).take 0))=[]++(strOf E).data.toList by simp[pps,strOf]]
  exact hB4
 have aop:Below w.heap.size w3 w4:=hb4.mono (by omega)
 have HB04:Hid (Below w.heap.size w w4):=HB03.out.trans aop
 have Ae:w.heap.size+1≤w4.heap.size:=by have:=hb4.size;omega
 have hx4:B3 44 w4 w.heap.size (.string T) (.string S) (.slice A n cap):=(hb4.block _ (by omega)).trans jI.out
 obtain⟨c0,c1,c2⟩:=hx4.facts
 clear hB4 hb4 hk4 aop hx4 hx3
 go_upto_region 4 with(fail)
 clear c0 c1 c2
 go_loopw [5,12] (fun _ vk wr=>∃k:Nat,k≤n∧vk=.int .i64 (k:Int)∧Hid (lq (w.heap.size+1) (w.heap.size+1) (E++pps ((mQ l).take k)) wr)∧Hid (Below w.heap.size w wr)∧w.heap.size+1≤wr.heap.size) (fun _ vk _=>n - (intOf vk).toNat)
 case atStart=>exact⟨0,Nat.zero_le _,rfl,HB4.out,HB04.out,Ae⟩
 case round =>
  obtain⟨k,hk,rfl,HB,Z4,hsz⟩:=hrel
  by_cases hlt:k<n
  ·have hkl:k<l.length:=by rw[HL.out];exact hlt
   obtain⟨b,off,rfl,hb,h1,h2⟩:=(HR.out.under Z4.out (Nat.le_refl _)).2 k hkl
   have hz:=HF.out l[k] (List.getElem_mem hkl)
   have hTk:=OZ l k hkl
   have hPk:=HP.out (k+1) hkl
   obtain⟨s1,hs1⟩:∃s,s=l[k].1:=⟨_,rfl⟩
   obtain⟨s2,hs2⟩:∃s,s=l[k].2:=⟨_,rfl⟩
   rw[←hs1]at h1 hz hTk
   rw[←hs2]at h2 hz hTk
   have HTK:=hid hTk
   obtain⟨P,hP⟩:∃P,P=E++pps ((mQ l).take k):=⟨_,rfl⟩
   have HPN:Hid (E++pps ((mQ l).take (k+1))=P++Q9 (s1.data.toList,s2.data.toList)):=by
    show _=_
    rw[hTk,Rh,hP,List.append_assoc]
   have hPl:P.length≤8000000000000:=by rw[hP];have:=HP.out k (by omega);omega
   have vW:=hid hPl
   rw[←hP]at HB
   have hki:(k:Int)<(n:Int):=by omega
   obtain⟨X,hX⟩:∃X,X=59::s1.data.toList:=⟨_,rfl⟩
   obtain⟨Y,hY⟩:∃Y,Y=X++[61]:=⟨_,rfl⟩
   have hYl:Y.length≤2097155:=by rw[hY,hX];simp only[List.length_append,List.length_cons,dl,List.length_nil];omega
   have a1:∀w:World,(Op.stringOp .add ⟨#[59]⟩ s1).run Tryz.prog w=.ok (.string (strOf X)) w:=fun w=>by rw[hX];exact dL ⟨#[59]⟩ s1 w (by show 1+s1.size≤_;omega)
   have a2:∀w:World,(Op.stringOp .add (strOf X) ⟨#[61]⟩).run Tryz.prog w=.ok (.string (strOf Y)) w:=fun w=>by rw[hY];exact dL _ ⟨#[61]⟩ w (by rw[o9,hX];simp only[List.length_cons,dl];show _+1≤_;omega)
   have HST:Hid (∀v,v=Au s2.data.toList→P++Y++v=E++pps ((mQ l).take (k+1))):=by
    intro v hv
    rw[HPN.out,hY,hX]
    exact aeg _ _ _ _ hv
   have HYL:=hid hYl
   have HIS:=hid (fun w=>Gn.QC s2 w (by omega))
   have HQU:=hid (fun w=>TokS.air s2 w (by omega))
   have hs2z:s2.size≤2097152:=by omega
   have hpv:Au s2.data.toList=if dP s2.data.toList=true then s2.data.toList else qq s2.data.toList:=rfl
   have hqq:=ane s2.data.toList
   rw[dl]at hqq
   obtain⟨t,ht⟩:∃t,t=dP s2.data.toList:=⟨_,rfl⟩
   rw[←ht]at HIS hpv
   obtain⟨Q,hQ⟩:∃Q:ByteArray,Q=strOf (qq s2.data.toList):=⟨_,rfl⟩
   rw[←hQ]at HQU
   have hQd:Q.data.toList=qq s2.data.toList:=by rw[hQ];rfl
   have hQl:Q.size≤4194310:=by rw[hQ,o9];omega
   rw[←hQd]at hpv
   have HPV:=hid hpv
   have HQL:=hid hQl
   clear hs1 hs2 hkl hTk hPk hP hPl hX hY hYl hpv hqq ht hQ hQd hQl hz
   go_upto_region 6 with(fail)
   generalize bI:wr.alloc _=wa
   have hba:Below wr.heap.size wr wa:=by rw[←bI];exact(Below.refl _ _).alloc (Nat.le_refl _) _
   have hxa:B2 130 wa wr.heap.size (.string s1) (.string s2):=by show B2 _ _ _ _ _;rw[←bI];exact heap_alloc_new _ _
   have HBa:=hid (gZ HB.out hba)
   have HBLa:=hid (bel Z4.out hba)
   have hsza:w.heap.size+1≤wa.heap.size:=by have:=hba.size;omega
   have HXa:=hid hxa
   obtain⟨k0,k1⟩:=hxa.facts
   have Za:Hid (wr.heap.size≠w.heap.size+1):=by
    show _≠_
    intro e
    have h3:=hB3lt HB.out
    omega
   clear bI hba hxa h1 h2
   go_wp2_with fail
   clear k0 k1 a1 a2
   refine(Ba _ _ _ _ _ HBa.out (by rw[o9];have:=HYL.out;have:=vW.out;simp;omega) hsza).mono ?_
   rintro e w5 ⟨rfl,hB5,hb5,hk5⟩
   have iG:Hid (lq (w.heap.size+1) (w.heap.size+1) (P++Y) w5):=hB5
   have aoq:Below w.heap.size wa w5:=hb5.mono (by omega)
   have xZ:Hid (Below w.heap.size w w5):=HBLa.out.trans aoq
   have hsz5:w.heap.size+1≤w5.heap.size:=by have:=hb5.size;omega
   have hx5:B2 130 w5 wr.heap.size (.string s1) (.string s2):=hk5 _ _ _ _ Za.out HTY.out HXa.out
   obtain⟨k0,k1⟩:=hx5.facts
   clear hB5 hb5 aoq hk5 hx5
   go_wp2_with fail
   refine(HIS.out _).mono ?_
   rintro e w6 ⟨rfl,hw6⟩
   subst hw6
   cases t with
   |true=>
    have ahG:Hid (s2.data.toList=Au s2.data.toList):=by show _=_;rw[HPV.out,if_pos rfl]
    go_wp2_with fail
    clear k0 k1
    refine(Ba _ _ _ _ _ iG.out (by have:=HYL.out;have:=vW.out;simp;omega) hsz5).mono ?_
    rintro e w7 ⟨rfl,hB7,hb7,_⟩
    have kZ:Hid (lq (w.heap.size+1) (w.heap.size+1) (E++pps ((mQ l).take (k+1))) w7):=by
     show lq _ _ _ _
     rw[←HST.out _ ahG.out]
     exact hB7
    have ai3:Below w.heap.size w5 w7:=hb7.mono (by omega)
    have ai4:w.heap.size+1≤w7.heap.size:=by have:=hb7.size;omega
    clear hB7 hb7
    go_wp2
    go_roundw
    case rel=>exact⟨k+1,by omega,by go_num,kZ.out,xZ.out.trans ai3,ai4⟩
    case measure=>simp[intOf];omega
   |false=>
    have ahG:Hid (Q.data.toList=Au s2.data.toList):=by show _=_;rw[HPV.out,if_neg (by simp)]
    go_wp2_with fail
    clear k0 k1
    refine(HQU.out _).mono ?_
    rintro e w6 ⟨rfl,hb6⟩
    have nN:=hid (gZ iG.out hb6)
    have HBL6:=hid (bel xZ.out hb6)
    have ajz:w.heap.size+1≤w6.heap.size:=by have:=hb6.size;omega
    clear hb6
    go_wp2_with fail
    refine(Ba _ _ _ _ _ nN.out (by have:=HYL.out;have:=vW.out;have:=HQL.out;simp;omega) ajz).mono ?_
    rintro e w7 ⟨rfl,hB7,hb7,_⟩
    have kZ:Hid (lq (w.heap.size+1) (w.heap.size+1) (E++pps ((mQ l).take (k+1))) w7):=by
     show lq _ _ _ _
     rw[←HST.out _ ahG.out]
     exact hB7
    have ai3:Below w.heap.size w6 w7:=hb7.mono (by omega)
    have ai4:w.heap.size+1≤w7.heap.size:=by have:=hb7.size;omega
    clear hB7 hb7
    go_wp2
    go_roundw
    case rel=>exact⟨k+1,by omega,by go_num,kZ.out,HBL6.out.trans ai3,ai4⟩
    case measure=>simp[intOf];omega
  ·obtain rfl:k=n:=by omega
   rw[←HV.out]at HB
   go_wp2_with fail
   refine(qL _ _ _ _ HB.out hsz).mono ?_
   rintro e w7 ⟨rfl,hb7⟩
   go_wp2
   go_ret
   exact⟨rfl,Z4.out.trans (hb7.mono (by omega))⟩
end Go.Proofs.YtgamccijegollaaGreatDoor.al8
namespace Go.Proofs.YtgamccijegollaaGreatDoor.apt
open Go.RowKit Base dI cO zD ND
open Go.Proofs.YtgamccijegollaaGreatDoor.FM (jR zV LX)
theorem alO (b:UInt8) (L:List UInt8):decide (0≤Lib.indexByte L b)=L.contains b:=by
 have hge:=Lib.indexByte_ge L b
 by_cases h:Lib.indexByte L b= -1
 ·have hn:=Lib.indexByte_none h
  rw[decide_eq_false (by omega)]
  cases e:L.contains b with
  |false=>rfl
  |true=>
   have hm:b ∈ L:=by simpa using e
   obtain⟨j,hj,he⟩:=List.getElem_of_mem hm
   exact absurd (List.getElem?_eq_some_iff.2 ⟨hj,he⟩) (hn j)
 obtain⟨o,ho⟩:∃o:Nat,Lib.indexByte L b=o:=⟨(Lib.indexByte L b).toNat,by omega⟩
 have hs:=(Lib.indexByte_some ho).1
 rw[decide_eq_true (by omega)]
 obtain⟨hj,he⟩:=List.getElem?_eq_some_iff.1 hs
 symm
 simpa using(show b ∈ L by rw[←he];exact List.getElem_mem _)
theorem EG (L:List UInt8) (c:UInt8):mV (L++[c])=mV L++e1 c:=by simp[mV]
theorem ali (c:UInt8):1≤(e1 c).length∧(e1 c).length≤3:=by unfold e1;split<;>simp
theorem Qg (L:List UInt8):(mV L).length≤3*L.length:=by
 induction L with
 |nil=>simp[mV]
 |cons c L ih=>
  have h:=ali c
  have e:mV (c::L)=e1 c++mV L:=by simp[mV]
  rw[e,List.length_append,List.length_cons]
  omega
theorem escd_ge (L:List UInt8):L.length≤(mV L).length:=by
 induction L with
 |nil=>simp[mV]
 |cons c L ih=>
  have h:=ali c
  have e:mV (c::L)=e1 c++mV L:=by simp[mV]
  rw[e,List.length_append,List.length_cons]
  omega
attribute [local go_sem ↓] Go.wp_at_zero Go.wp_at_succ
theorem wM (A:Option Addr) (n cap:Nat) (L:List UInt8) (w:World) (h:aY w A n (ah L)) (hm:n≤1073741824):
  Calls Tryz.prog 187 #[.slice A n cap] w fun e w'=>e=.returned (.string (strOf (mV L)))∧Below w.heap.size w w':=by
 have hl:L.length=n:=by rw[←aI];exact h.1
 have HL:=hid hl
 clear hl
 obtain⟨i0,hi,hz0,hz1,hz2⟩:=info_parts iR
 have HH:=hid h
 clear h
 go_enter Tryz.func187,Tryz.ntmps187
 go_wp2_with (at_make;refine wpList_make_own _ rfl _ _ 45 rfl w.heap.size 5 i0 (.int .u8 0) 1 Tryz.underlying45 hi hz0 hz1 .i64 .i64 _ n rfl rfl rfl (by rw[hz2];omega) (by unfold maxLen;omega) (Nat.le_refl _) ?_)
 intro w1 hown1 hg1
 have gW:Below w.heap.size w w1:=(Below.refl _ _).grown hg1 (Nat.le_refl _) (by intro k h;cases h)
 clear hg1
 go_wp2
 go_loopw [3,5,11] (fun v _ vk wr=>∃(j:Nat),j≤n∧vk=.int .i64 j∧wr.ownsRow w.heap.size 5 1 v (mV (L.take j)).length (ah (mV (L.take j)))∧Below w.heap.size w wr) (fun _ _ vk _=>n - (intOf vk).toNat)
 case atStart=>exact⟨0,Nat.zero_le _,rfl,hown1,gW⟩
 case round=>
  clear hown1 gW
  obtain⟨j,hj,rfl,hown,hbel⟩:=hrel
  by_cases hlt:j<n
  ·obtain ⟨b, off, rfl, hb, _⟩ := (HH.out).spot (by omega)
   obtain⟨c,hx⟩:∃c,c=L[j]'(by rw[HL.out];exact hlt):=⟨_,rfl⟩
   have hcell:wr.cell? ⟨b,off+j,none⟩=some (.int .u8 (c.toNat:Int)):=by
    rw[hx,←HH.out.byte j (by rw[HL.out];exact hlt)]
    exact hbel.cell (p:=⟨b,off+j,none⟩) hb
   have HS:Hid (L.take (j+1)=L.take j++[c]):=by
    rw[hx]
    exact List.take_succ_eq_append_getElem (by rw[HL.out];exact hlt)
   clear hx
   have hle:=Qg (L.take j)
   have hle2:(L.take j).length≤j:=List.length_take_le _ _
   obtain⟨m,hmm⟩:∃m,m=(mV (L.take j)).length:=⟨_,rfl⟩
   rw[←hmm]at hle hown
   have HM:=hid hmm
   clear hmm
   have hc0:(c.toNat:Int)<256:=by have:=c.toNat_lt;omega
   obtain⟨a,ha⟩:∃a,a=letter c.toNat:=⟨_,rfl⟩
   obtain⟨d,hd⟩:∃d,d=digit c.toNat:=⟨_,rfl⟩
   obtain⟨x,hx⟩:∃x,x=([45,46,95,126]:List UInt8).contains c:=⟨_,rfl⟩
   have sQ:Hid (∀w:World,Calls Tryz.prog 210 #[.int .u8 (c.toNat:Int)] w fun e w'=>e=.returned (.bool a)∧w=w'):=fun w=>by rw[ha];exact dN _ w
   have Tv:Hid (∀w:World,Calls Tryz.prog 211 #[.int .u8 (c.toNat:Int)] w fun e w'=>e=.returned (.bool d)∧w=w'):=fun w=>by rw[hd];exact fE _ w
   have YN:Hid (∀w:World,Calls Tryz.prog 190 #[.string ⟨#[45,46,95,126]⟩,.int .u8 (c.toNat:Int)] w fun e w'=>∃z:Int,e=.returned (.int .i64 z)∧decide (0≤z)=x∧w'=w):=fun w=>by
    refine(Tryz.strings_IndexByte ⟨#[45,46,95,126]⟩ _ w).mono ?_
    rintro e w' ⟨rfl,rfl⟩
    refine⟨_,rfl,?_,rfl⟩
    rw[show((c.toNat:Int).toNat.toUInt8)=c by simp,alO,hx]
   have hun:e1 c=if (a||d||x)=true then[c]else[37,jR (c.toNat / 16),jR (c.toNat%16)]:=by rw[ha,hd,hx];rfl
   have HUN:=hid hun
   clear ha hd hx hun
   cases a with
   | true=>
    have HI:Hid (e1 c=[c]):=HUN.out
    go_wp2_with fail
    refine(sQ.out _).mono ?_
    rintro e w2 ⟨rfl,rfl⟩
    go_wp2_with (at_builtin;refine aQ rfl _ _ 45 rfl w.heap.size 5 i0 (.int .u8 0) 1 Tryz.underlying45 hi hz0 hz1 hz2 rfl _ m _ rfl hown hbel hbel.size [.int .u8 (c.toNat:Int)] 1 rfl rfl (by intro u hu;simp at hu;subst hu;rfl) (by unfold maxLen;omega) (by omega) ?_)
    intro v' w2 hown2 dZ
    clear hown hbel
    go_wp2
    go_roundw
    case rel=>exact⟨j+1,by omega,by go_num,by
      have e1:e1 c=[c]:=HI.out
      rw[HS.out,EG,e1,List.length_append,aS,←HM.out]
      exact hown2,dZ⟩
    case measure=>simp[intOf];omega
   | false=>
    go_wp2_with fail
    refine(sQ.out _).mono ?_
    rintro e w2 ⟨rfl,rfl⟩
    cases d with
    | true=>
     have HI:Hid (e1 c=[c]):=HUN.out
     go_wp2_with fail
     refine(Tv.out _).mono ?_
     rintro e w2 ⟨rfl,rfl⟩
     go_wp2_with (at_builtin;refine aQ rfl _ _ 45 rfl w.heap.size 5 i0 (.int .u8 0) 1 Tryz.underlying45 hi hz0 hz1 hz2 rfl _ m _ rfl hown hbel hbel.size [.int .u8 (c.toNat:Int)] 1 rfl rfl (by intro u hu;simp at hu;subst hu;rfl) (by unfold maxLen;omega) (by omega) ?_)
     intro v' w2 hown2 dZ
     clear hown hbel
     go_wp2
     go_roundw
     case rel=>exact⟨j+1,by omega,by go_num,by
       have e1:e1 c=[c]:=HI.out
       rw[HS.out,EG,e1,List.length_append,aS,←HM.out]
       exact hown2,dZ⟩
     case measure=>simp[intOf];omega
    | false=>
     go_wp2_with fail
     refine(Tv.out _).mono ?_
     rintro e w2 ⟨rfl,rfl⟩
     go_wp2_with fail
     refine(YN.out _).mono ?_
     rintro e w2 ⟨z,rfl,hz,hw2⟩
     subst hw2
     cases x with
     | true=>
      have HI:Hid (e1 c=[c]):=HUN.out
      have zz1:0≤z:=by simpa using hz
      have zz2:¬z<0:=by omega
      go_wp2_with (at_builtin;refine aQ rfl _ _ 45 rfl w.heap.size 5 i0 (.int .u8 0) 1 Tryz.underlying45 hi hz0 hz1 hz2 rfl _ m _ rfl hown hbel hbel.size [.int .u8 (c.toNat:Int)] 1 rfl rfl (by intro u hu;simp at hu;subst hu;rfl) (by unfold maxLen;omega) (by omega) ?_)
      intro v' w2 hown2 dZ
      clear hown hbel
      go_wp2
      go_roundw
      case rel=>exact⟨j+1,by omega,by go_num,by
        have e1:e1 c=[c]:=HI.out
        rw[HS.out,EG,e1,List.length_append,aS,←HM.out]
        exact hown2,dZ⟩
      case measure=>simp[intOf];omega
     | false=>
      have HI:Hid (e1 c=[37,jR (c.toNat / 16),jR (c.toNat%16)]):=HUN.out
      have zz2:¬0≤z:=by simpa using hz
      have zz1:z<0:=by omega
      clear hz
      go_wp2
      have q1:(0:Int)≤(c.toNat:Int) / 16:=by omega
      have q2:(c.toNat:Int) / 16<16:=by omega
      have q3:(0:Int)≤(c.toNat:Int)%16:=by omega
      have q4:(c.toNat:Int)%16<16:=by omega
      have q5:=PE c
      have q6:∀h,(⟨#[48,49,50,51,52,53,54,55,56,57,65,66,67,68,69,70]⟩:ByteArray)[((c.toNat:Int) / 16).toNat]'h=jR (c.toNat / 16):=fun h=>zV _ h
      have q7:∀h,(⟨#[48,49,50,51,52,53,54,55,56,57,65,66,67,68,69,70]⟩:ByteArray)[((c.toNat:Int)%16).toNat]'h=jR (c.toNat%16):=fun h=>zV _ h
      go_region_held3 (fun _=>True) (trivial) ((refine RS (by rfl) _ _ 45 (by rfl) w.heap.size 5 i0 (.int .u8 0) 1 Tryz.underlying45 hi hz0 hz1 hz2 (by rfl) _ m _ (by rfl) hown hbel hbel.size [.int .u8 37,.int .u8 ((jR (c.toNat / 16)).toNat:Int),.int .u8 ((jR (c.toNat%16)).toNat:Int)] 3 (by rfl) (by decide) (by rfl) (LX _ _ _) (by unfold maxLen;omega) (by omega) ⟨(Below.refl _ _).drew,fun _=>rfl,by simp⟩ ?_;intro v' w2 hown2 dZ))
      all_goals
       clear hown hbel q1 q2 q3 q4 q5 q6 q7
       go_wp2
       go_roundw
       case rel=>exact⟨j+1,by omega,by go_num,by
         have e1:e1 c=[37,jR (c.toNat / 16),jR (c.toNat%16)]:=HI.out
         rw[HS.out,EG,e1,List.length_append,aS,←HM.out]
         exact hown2,dZ⟩
       case measure=>simp[intOf];omega
  ·obtain rfl:j=n:=by omega
   have HE:Hid (L.take j=L):=by
    rw[←HL.out];exact List.take_length
   rw[HE.out]at hown
   obtain⟨A',c',rfl,_,_,hrd⟩:=aJ hown
   have hst:=aF 45 9 5 Tryz.underlying45 Tryz.underlying5 Tryz.underlying9 _ c' hrd
   go_wp2
   go_ret
   exact⟨rfl,hbel⟩
end Go.Proofs.YtgamccijegollaaGreatDoor.apt
namespace Go.Proofs.YtgamccijegollaaGreatDoor.BuiB
open Go.RowKit Base Dp cO pU qg oG BG rC acp JY Ce ND
theorem sN (letters:Bool) (T S:ByteArray) (A:Option Addr) (n cap:Nat) (A2:Option Addr) (n2 c2:Nat) (B P:List UInt8) (w:World)
  (hP:∀w':World,Below w.heap.size w w'→Calls Tryz.prog 49 #[.agg #[.string T,.string S,.slice A n cap]] w' fun e w''=>e=.returned (.string (strOf P))∧Below w'.heap.size w' w'') (hPl:P.length≤10000000) (hB:aY w A2 n2 (ah B)) (hc2:n2≤c2) (hn2:n2≤10000000):
  Calls Tryz.prog 87 #[.agg #[.string T,.string S,.slice A n cap],.slice A2 n2 c2,.bool letters] w fun e w'=>e=.returned (.string (strOf (vX++(P++Em letters B))))∧Below w.heap.size w w':=by
 have HP:=hid hP
 have HR:=hid hB
 have hbl:B.length=n2:=by rw[←aI];exact hB.1
 obtain⟨X1,hX1⟩:∃X,X=vX++P:=⟨_,rfl⟩
 have hx1:X1.length≤10000005:=by rw[hX1,List.length_append];show 5+_≤_;omega
 have HA1:Hid (∀w:World,(Op.stringOp .add ⟨#[100,97,116,97,58]⟩ (strOf P)).run Tryz.prog w=.ok (.string (strOf X1)) w):=fun w=>by rw[hX1];exact dL _ _ w (by rw[o9];show 5+_≤_;omega)
 cases letters with
 |true=>
  obtain⟨X2,hX2⟩:∃X,X=X1++(CX++[44]):=⟨_,rfl⟩
  have hx2:X2.length≤10000013:=by rw[hX2,List.length_append];show _+8≤_;omega
  have hel:(e64 B).length≤20000000:=by rw[XC];omega
  have HA2:Hid (∀w:World,(Op.stringOp .add (strOf X1) ⟨#[59,98,97,115,101,54,52,44]⟩).run Tryz.prog w=.ok (.string (strOf X2)) w):=fun w=>by rw[hX2];exact dL _ _ w (by rw[o9];show _+8≤_;omega)
  obtain⟨X3,hX3⟩:∃X,X=X2++e64 B:=⟨_,rfl⟩
  have HA3:Hid (∀w:World,(Op.stringOp .add (strOf X2) (strOf (e64 B))).run Tryz.prog w=.ok (.string (strOf X3)) w):=fun w=>by rw[hX3];exact dL _ _ w (by rw[o9,o9];omega)
  have HV:Hid (vX++(P++Em true B)=X3):=by show _=_;rw[hX3,hX2,hX1];unfold Em;rw[if_pos rfl];simp
  have F6:Hid (∀w':World,aY w' A2 n2 (ah B)→Calls Tryz.prog 186 #[.slice A2 n2 c2] w' fun e w''=>e=.returned (.string (strOf (e64 B)))∧Below w'.heap.size w' w''):=fun w' h=>acp.eF A2 n2 c2 B w' h hc2 (by omega)
  rw[HV.out]
  clear hP hB hbl hX1 hx1 hX2 hx2 hel hX3 HV hPl hn2 hc2
  go_enter Tryz.func87,Tryz.ntmps87
  go_upto_region 1 with(fail)
  generalize hw1:w.alloc _=w1
  have HB1:Hid (Below w.heap.size w w1):=by show Below _ _ _;rw[←hw1];exact(Below.refl _ _).alloc (Nat.le_refl _) _
  have hx1:B3 44 w1 w.heap.size (.string T) (.string S) (.slice A n cap):=by
   rw[←hw1]
   exact heap_alloc_new w _
  have kP:=hid hx1
  clear hw1 hx1
  have a1:=HA1.out
  have a2:=HA2.out
  have a3:=HA3.out
  obtain⟨c0,c1,c2'⟩:=kP.out.facts
  go_wp2_with fail
  clear c0 c1 c2'
  refine(HP.out _ HB1.out).mono ?_
  rintro e w2 ⟨rfl,hb2⟩
  have HB2:=hid (bel HB1.out hb2)
  have HR2:=hid (HR.out.below HB2.out)
  clear hb2
  go_wp2_with fail
  refine(F6.out _ HR2.out).mono ?_
  rintro e w3 ⟨rfl,hb3⟩
  have HB3:=hid (bel HB2.out hb3)
  clear hb3
  go_wp2
  go_ret
  exact⟨rfl,HB3.out⟩
 |false=>
  obtain⟨X2,hX2⟩:∃X,X=X1++[44]:=⟨_,rfl⟩
  have hx2:X2.length≤10000006:=by rw[hX2,List.length_append];show _+1≤_;omega
  have hel:(mV B).length≤30000000:=by have:=apt.Qg B;omega
  have HA2:Hid (∀w:World,(Op.stringOp .add (strOf X1) ⟨#[44]⟩).run Tryz.prog w=.ok (.string (strOf X2)) w):=fun w=>by rw[hX2];exact dL _ _ w (by rw[o9];show _+1≤_;omega)
  obtain⟨X3,hX3⟩:∃X,X=X2++mV B:=⟨_,rfl⟩
  have HA3:Hid (∀w:World,(Op.stringOp .add (strOf X2) (strOf (mV B))).run Tryz.prog w=.ok (.string (strOf X3)) w):=fun w=>by rw[hX3];exact dL _ _ w (by rw[o9,o9];omega)
  have HV:Hid (vX++(P++Em false B)=X3):=by show _=_;rw[hX3,hX2,hX1];unfold Em;rw[if_neg (by decide)];simp
  have F6:Hid (∀w':World,aY w' A2 n2 (ah B)→Calls Tryz.prog 187 #[.slice A2 n2 c2] w' fun e w''=>e=.returned (.string (strOf (mV B)))∧Below w'.heap.size w' w''):=fun w' h=>apt.wM A2 n2 c2 B w' h (by omega)
  rw[HV.out]
  clear hP hB hbl hX1 hx1 hX2 hx2 hel hX3 HV hPl hn2 hc2
  go_enter Tryz.func87,Tryz.ntmps87
  go_upto_region 1 with(fail)
  generalize hw1:w.alloc _=w1
  have HB1:Hid (Below w.heap.size w w1):=by show Below _ _ _;rw[←hw1];exact(Below.refl _ _).alloc (Nat.le_refl _) _
  have hx1:B3 44 w1 w.heap.size (.string T) (.string S) (.slice A n cap):=by
   rw[←hw1]
   exact heap_alloc_new w _
  have kP:=hid hx1
  clear hw1 hx1
  have a1:=HA1.out
  have a2:=HA2.out
  have a3:=HA3.out
  obtain⟨c0,c1,c2'⟩:=kP.out.facts
  go_wp2_with fail
  clear c0 c1 c2'
  refine(HP.out _ HB1.out).mono ?_
  rintro e w2 ⟨rfl,hb2⟩
  have HB2:=hid (bel HB1.out hb2)
  have HR2:=hid (HR.out.below HB2.out)
  clear hb2
  go_wp2_with fail
  refine(F6.out _ HR2.out).mono ?_
  rintro e w3 ⟨rfl,hb3⟩
  have HB3:=hid (bel HB2.out hb3)
  clear hb3
  go_wp2
  go_ret
  exact⟨rfl,HB3.out⟩
end Go.Proofs.YtgamccijegollaaGreatDoor.BuiB
