/- Texts that belong together: Base4, OX, aj2, rC, oG, sV, BZ, B64U, Nw, JY. -/
import Derived.Test.YtgamccijegollaaGreatDoorFNAAA
import Derived.Laws.OwnMore
import Derived.Test.YtgamccijegollaaGreatDoorFNAAK
import Derived.Maps.Own
import Derived.Maps.Views
import Derived.ProofKit
import Derived.OpenShut
import Derived.ShutString
import Derived.ChangeOld
import Derived.Below
import Derived.SliceStrings
import Derived.SizedLaws
import Derived.Deep.Slices
import Derived.Deep.Fields
import Derived.ChangeSame
import Derived.Test.YtgamccijegollaaGreatDoorFNAAE
import Derived.Test.YtgamccijegollaaGreatDoorFNAAG
set_option linter.unusedSimpArgs false
set_option linter.unusedVariables false
set_option maxRecDepth 100000
set_option maxHeartbeats 64000000
namespace Go.Proofs.YtgamccijegollaaGreatDoor.Base4
open Go.RowKit Base Dp
section
variable {P:Program} {W w0:World} {ops:Array Oper} {rest:List Oper} {o:Oper} {a:Act} {Q:Exit→Act→World→Prop}
theorem ab8 (size:Nat) (hgd:o.guard=none) (s x:Operand) (t:TypeId) (ho:o.op=.call {callee:=.builtin .append,args:=#[s,x],argTypes:=#[t,t]})
  (B:Nat) (e:TypeId) (i:TypeInfo) (z:Value) (by_:Nat) (ht:P.underlying t=some (.slice e)) (hi:P.info? e=some i) (hz:i.zero=some z) (hsize:i.size=size) (hby:i.bytes=by_) (hzs:z.cells.size=size) (hs0:0<size)
  (v:Value) (n:Nat) (xs:List Value) (hs:a.eval s=v) (hown:W.ownsRow B e size v n xs) (hbel:Below B w0 W) (hB:B≤W.heap.size)
  (news:List Value) (m:Nat) (hm:news.length=m*size) (hx:a.eval x=.slice (some ⟨W.heap.size,0,none⟩) m m) (h1:∀u ∈ news,u.oneCell'=true)
  (h63:n+m≤maxLen) (hbytes:(n+m)*by_≤140737488355328)
  (h:∀v' w',w'.ownsRow B e size v' (n+m) (xs++news)→Below B w0 w'→(W.alloc (.cells news.toArray e)).grownBy w' v.ownBlock→wpList P ops Q rest (a.put o.dst v') w'):
  wpList P ops Q (o::rest) a (W.alloc (.cells news.toArray e)):=by
 refine wpList_append_own _ hgd s x t ho B e i z size by_ ht hi hz hsize hby hzs hs0 v n xs hs (hown.alloc _) ⟨W.heap.size,0,none⟩ m m news hx hm (fun j u hj=>?_) h1 h63 hbytes (by simp;omega) (fun v' w' h2 h3 _=>h v' w' h2 ?_ h3)
 ·rw[Xd,World.cell?_alloc_mark]
  simpa using hj
 ·exact(hbel.alloc hB _).grown h3 (by simp;omega) (fun g hg=>(hown.lt g hg).1)
end
end Go.Proofs.YtgamccijegollaaGreatDoor.Base4
namespace Go.Proofs.YtgamccijegollaaGreatDoor.OX
open Go Go.RowKit Go.Maps Base Dp Base4 cO pU qg OW NG
def Says (w:World) (b n:Nat) (names:List (List UInt8)):Prop:=∃D:DataW Unit,w.ownsMap Tryz.prog 9 (plainElem Tryz.prog 3) b n D∧IsMap D∧∀name:List UInt8,D.atKey (.string name) (.lit (.int .i64 0))=.lit (.int .i64 (if name ∈ names then 1 else 0))
theorem law:Keyed Tryz.prog 9:=string_keyed Tryz.underlying9
theorem zeroE (w:World):(zeroValue 3).run Tryz.prog w=.ok (.int .i64 0) w:=by kernel_rfl
theorem Says.made (w:World):Says (w.alloc (.map #[] 0)) w.heap.size 0 []:=⟨.map [],World.ownsMap_made _ _ _ _,⟨[],rfl⟩,fun _=>rfl⟩
theorem Says.lt {w:World} {b n:Nat} {l:List (List UInt8)} (h:Says w b n l):b<w.heap.size:=by obtain⟨D,h,_⟩:=h;exact h.lt
theorem Says.kept {w w':World} {b n:Nat} {l:List (List UInt8)} {row:Option Nat} (h:Says w b n l) (hg:w.grownBy w' row) (hne:some b≠row):Says w' b n l:=by
 obtain⟨D,h1,h2,h3⟩:=h
 exact⟨D,h1.kept hg hne,h2,h3⟩
theorem Says.below {w w':World} {b n:Nat} {l:List (List UInt8)} (h:Says w b n l) (hb:Below w.heap.size w w'):Says w' b n l:=by
 have hlt:=h.lt
 obtain⟨D,h1,h2,h3⟩:=h
 obtain⟨es,clock,hb1,F,hs,hD⟩:=h1
 exact⟨D,⟨es,clock,(hb.block b hlt).trans hb1,F,hs,hD⟩,h2,h3⟩
theorem Says.set {w:World} {b n g i:Nat} {l:List (List UInt8)} {u:Value} (h:Says w b n l) (hne:b≠g):Says (w.setCell ⟨g,i,none⟩ u) b n l:=by
 obtain⟨D,h1,h2,h3⟩:=h
 obtain⟨es,clock,hb1,F,hs,hD⟩:=h1
 exact⟨D,⟨es,clock,(heap_setCell_other w ⟨g,i,none⟩ b u hne).trans hb1,F,hs,hD⟩,h2,h3⟩
theorem Says.look {w:World} {b n:Nat} {l:List (List UInt8)} (h:Says w b n l) (s:ByteArray) (hs:s.size≤maxLen):(Instr.lookup 217 (.map (some b)) (.string s) false).run Tryz.prog w=.ok (.int .i64 (if s.data.toList ∈ l then 1 else 0)) w:=by
 obtain⟨D,h1,h2,h3⟩:=h
 obtain⟨c,hrun,hat,_⟩:=h1.lookup_int law Tryz.underlying217 Tryz.underlying3 (zeroE w) (WideMaps.keyOf_string_mk Tryz.underlying9 hs)
 rw[h3]at hat
 injection hat with hat
 injection hat with _ hat
 rw[hrun,hat]
theorem Says.put {w:World} {b n:Nat} {l:List (List UInt8)} (h:Says w b n l) (s:ByteArray) (hs:s.size≤maxLen) (hn:n<maxLen):
  ∃w',(Instr.mapUpdate 217 (.map (some b)) (.string s) (.int .i64 1)).run Tryz.prog w=.ok () w'∧Says w' b (n+1) (s.data.toList::l)∧w.grownBy w' (some b):=by
 obtain⟨D,h1,h2,h3⟩:=h
 obtain⟨w',hrun,hown,hg⟩:=h1.update law Tryz.underlying217 hn (WideMaps.keyOf_string_mk Tryz.underlying9 hs) (plainElem_int Tryz.underlying3 (show(Lit.int .i64 1).wf=true by decide))
 refine⟨w',hrun,⟨_,hown,IsMap.put h2 _ _,fun name=>?_⟩,hg⟩
 by_cases he:name=s.data.toList
 ·rw[he,atKey_put_same h2 (by trivial),if_pos (by simp)]
 ·rw[atKey_put_other (fun e=>he (by injection e)),h3]
  congr 2
  by_cases hm:name ∈ l
  ·rw[if_pos hm,if_pos (by simp[hm])]
  ·rw[if_neg hm,if_neg (by simp[hm,he])]
def bQ (l:List (List UInt8×List UInt8)):List Value:=l.flatMap fun p=>[.string (strOf p.1),.string (strOf p.2)]
theorem aa1 (l:List (List UInt8×List UInt8)) (p:List UInt8×List UInt8):bQ (l++[p])=bQ l++[.string (strOf p.1),.string (strOf p.2)]:=by simp[bQ]
theorem agA (a b:ByteArray):∀u ∈ [Value.string a,Value.string b],u.oneCell'=true:=by
 intro u hu
 simp at hu
 rcases hu with rfl|rfl<;>rfl
theorem adQ:(Tryz.prog.info? 130).map (fun i=>(i.zero,i.size,i.bytes))=some (some (.agg #[.string ByteArray.empty,.string ByteArray.empty]),2,32):=by kernel_rfl
theorem Qu (n:List UInt8) (acc:List (List UInt8×List UInt8)) (names:List (List UInt8)) (h:∀x,x ∈ names↔x ∈ acc.map (·.1)):GH n acc=decide (n ∈ names):=by
 unfold GH
 rw[Bool.eq_iff_iff,List.any_eq_true,decide_eq_true_iff,h,List.mem_map]
 constructor
 ·rintro⟨p,hp,he⟩
  exact⟨p,hp,by simpa using he⟩
 rintro⟨p,hp,he⟩
 exact⟨p,hp,by simpa using he⟩
def ssize:Value→Nat
 | .string s=>s.size
 |_=>0
theorem QT {w:World} {B b n m:Nat} {v:Value} {xs:List Value} {l:List (List UInt8)} {e:TypeId} {size:Nat} (ho:w.ownsRow B e size v n xs) (h:Says w b m l):v.ownBlock≠some b:=by
 obtain⟨D,⟨es,clock,hb,_⟩,_⟩:=h
 rcases ho.2 with⟨rfl,_⟩|⟨g',cap,cur,rfl,_,hh,_⟩
 ·simp[Value.ownBlock]
 intro he
 have:g'=b:=by simpa[Value.ownBlock]using he
 subst this
 rw[hh]at hb
 cases hb
theorem Na {t:List UInt8} {p:List UInt8×List UInt8} (h:(pm t).1=some p):p.1.length≤t.length:=by
 unfold pm at h
 split at h
 ·cases h
 split at h
 ·cases h
 have h':(if ((vl _).2.1&&dP (tw [59,61] (tl t))&&pm.VW (vl _).1)=true then some (lower (tw [59,61] (tl t)),(vl _).1)else none)=some p:=h
 split at h'
 ·injection h' with h'
  subst h'
  have h1:=AY [59,61] (tl t)
  have h2:=Hl t
  simp[lower]
  omega
 cases h'
theorem uh {w:World} {B g i n size:Nat} {e:TypeId} {v x:Value} {xs:List Value} (ho:w.ownsRow B e size v n xs) (hne:v.ownBlock≠some g):(w.setCell ⟨g,i,none⟩ x).ownsRow B e size v n xs:=by
 refine⟨ho.1,?_⟩
 rcases ho.2 with hn|⟨g',cap,cur,rfl,hb,hh,rest⟩
 ·exact .inl hn
 refine .inr ⟨g',cap,cur,rfl,hb,?_,rest⟩
 exact(heap_setCell_other w ⟨g,i,none⟩ g' x (fun e=>hne (by rw[e];rfl))).trans hh
def OwnP (w:World) (l:List (List UInt8×List UInt8)) (e:Ending) (w':World):Prop:=∃v,e=.returned v∧w'.ownsRow w.heap.size 130 2 v l.length (bQ l)∧Below w.heap.size w w'
theorem QW (s:ByteArray) (w:World) (hs:s.size≤1048576):Calls Tryz.prog 261 #[.string s] w (OwnP w (uj s.data.toList [])):=by
 obtain⟨i0,hi,hz0,hz1,hz2⟩:=info_parts adQ
 have hmm:=@run_makeMap Tryz.prog
 have HS:=hid hs
 clear hs
 go_enter Tryz.func261,Tryz.ntmps261
 go_wp2_with fail
 clear hmm
 go_loopw [0,3,5,6] (fun v0 v3 _ _ wr=>∃(R:ByteArray) (acc:List (List UInt8×List UInt8)) (names:List (List UInt8)) (k:Nat),v0=.string R∧Hid (wr.ownsRow w.heap.size 130 2 v3 acc.length (bQ acc))∧Hid (Says wr w.heap.size k names)∧Hid (∀x,x ∈ names↔x ∈ acc.map (·.1))∧Hid (Below w.heap.size w wr)∧Hid (uj R.data.toList acc=uj s.data.toList [])∧acc.length+R.size≤s.size∧k+R.size≤s.size) (fun v0 _ _ _ _=>ssize v0)
 case atStart=>exact⟨s,[],[],0,rfl,World.ownsRow_nil _ _ _ _,Says.made _,by show ∀x,_;simp,(Below.refl _ _).alloc (Nat.le_refl _) _,rfl,by simp,by omega⟩
 case round=>
  obtain⟨R,acc,names,k,rfl,HO,HM,HN,HB,HW,hal,hkl⟩:=hrel
  have hrl:R.data.toList.length=R.size:=Array.length_toList
  cases hr:R.data.toList with
  |nil=>
   have hq1:=AU hr
   have hq2:(R.toList==[])=true:=by rw[hq1];rfl
   have HE:Hid (acc=uj s.data.toList []):=by show _=_;rw[←HW.out,hr,aa7]
   clear hr hq1 hrl
   go_wp2
   go_ret
   exact⟨_,rfl,by rw[←HE.out];exact HO.out,HB.out⟩
  | cons c t=>
   have hq1:(R.toList==[])=false:=by rw[Lib.toList_data,hr];rfl
   have hq2:R.toList.isEmpty=false:=by rw[Lib.toList_data,hr];rfl
   have hq3:¬R.toList=[]:=by rw[Lib.toList_data,hr];simp
   have hR1:R.size=t.length+1:=by rw[←hrl,hr];rfl
   have h1i:(1:Int)≤(R.size:Int):=by omega
   obtain⟨Y,hY⟩:∃Y,Y=R.extract 1 R.size:=⟨_,rfl⟩
   have hYd:Y.data.toList=t:=by rw[hY,ext_drop,hr];rfl
   have hss:s.size≤1048576:=HS.out
   have hYs:Y.size≤1073741824:=by rw[hY,ByteArray.size_extract];omega
   have hpl:=Ya t
   have hWn:uj (pm t).2 (Kt acc (pm t).1)=uj s.data.toList []:=by rw[←HW.out,hr,Lr]
   have hpa:=fun w=>Uh Y w hYs
   rw[hYd]at hpa
   have TB:=hid hpa
   obtain⟨Z,hZ⟩:∃Z:ByteArray,Z=strOf (pm t).2:=⟨_,rfl⟩
   have Tn:Z.data.toList=(pm t).2:=by rw[hZ];rfl
   have hZs:Z.size=(pm t).2.length:=by rw[hZ,o9]
   have hZR:Z.size<R.size:=by omega
   have HZ:=hid hZ
   rw[←Tn]at hWn
   have HY:=hid hY
   have Gf:=hid hWn
   have Y7:Hid (∀p,(pm t).1=some p→p.1.length≤t.length):=by
    show ∀p,_
    intro p hp
    exact Na hp
   have HR1:=hid hR1
   clear hr hrl hR1 hY hYd hYs hpl hWn hpa hZ Tn hZs HW
   cases hp:(pm t).1 with
   |none=>
    have ajN:Hid ((pm t).1.isSome=false):=by show _=_;rw[hp];rfl
    have ajQ:Hid (uj Z.data.toList acc=uj s.data.toList []):=by show _=_;rw[←Gf.out,hp];rfl
    clear hp
    go_wp2_with fail
    rw[←HY.out]
    generalize bI:wr.alloc _=wa
    have HXa:Hid (B2 130 wa wr.heap.size (.string ⟨#[]⟩) (.string ⟨#[]⟩)):=by show B2 _ _ _ _ _;rw[←bI];exact heap_alloc_new _ _
    have HBa:Hid (Below w.heap.size w wa):=by show Below _ _ _;rw[←bI];exact HB.out.alloc HB.out.size _
    have HOa:Hid (wa.ownsRow w.heap.size 130 2 u3 acc.length (bQ acc)):=by show World.ownsRow _ _ _ _ _ _ _;rw[←bI];exact HO.out.alloc _
    have HMa:Hid (Says wa w.heap.size k names):=by show Says _ _ _ _;rw[←bI];exact HM.out.kept (World.grownBy_alloc _ _ none) (by simp)
    have HOL:Hid (u3.ownBlock≠some wr.heap.size):=by
     show _≠_
     intro e
     have:=(HO.out.lt _ e).2
     omega
    have Za:Hid (w.heap.size≠wr.heap.size):=by show _≠_;have:=HM.out.lt;omega
    have hgw:w.heap.size≤wr.heap.size:=HB.out.size
    have HGW:=hid hgw
    clear bI HB HO HM hgw
    refine(TB.out _).mono ?_
    rintro e w2 ⟨⟨a,b,rfl,hab⟩,hb2⟩
    rw[←HZ.out,ajN.out]
    have HAB:=hid hab
    have gY:=hid (HXa.out.below hb2)
    have HB2:=hid (bel HBa.out hb2)
    have jy:=hid (aP HOa.out hb2)
    have cu:=hid (HMa.out.below hb2)
    clear hb2 hab HXa HBa HOa HMa
    obtain⟨f0,f1⟩:=gY.out.thaw
    obtain⟨k0,k1⟩:=gY.out.facts
    go_upto_region 7 with(fail)
    clear f0 f1 k0 k1
    generalize hw3:(w2.setCell _ _).setCell _ _=w3
    have jI:Hid (B2 130 w3 wr.heap.size (.string a) (.string b)):=by show B2 _ _ _ _ _;rw[←hw3];exact gY.out.put _ _
    have HB3:Hid (Below w.heap.size w w3):=by show Below _ _ _;rw[←hw3];exact(HB2.out.setCell HGW.out _).setCell HGW.out _
    have iV:Hid (w3.ownsRow w.heap.size 130 2 u3 acc.length (bQ acc)):=by show World.ownsRow _ _ _ _ _ _ _;rw[←hw3];exact uh (uh jy.out HOL.out) HOL.out
    have AB:Hid (Says w3 w.heap.size k names):=by show Says _ _ _ _;rw[←hw3];exact(cu.out.set Za.out).set Za.out
    clear hw3 gY HB2 jy cu
    go_wp2
    go_roundw
    case rel=>exact⟨Z,acc,names,k,rfl,iV.out,AB.out,HN.out,HB3.out,ajQ.out,by omega,by omega⟩
    case measure=>simp[ssize];omega
   | some p=>
    have ajN:Hid ((pm t).1.isSome=true):=by show _=_;rw[hp];rfl
    have hpl:=Y7.out p hp
    have hr1:t.length<R.size:=by have:=HR1.out;omega
    have HP:=hid hp
    by_cases hm:p.1 ∈ names
    focus
     have ajQ:Hid (uj Z.data.toList acc=uj s.data.toList []):=by
      show _=_
      rw[←Gf.out,hp]
      unfold Kt
      simp only[]
      rw[Qu _ _ _ HN.out,if_pos (by rw[decide_eq_true_iff];exact hm)]
    rotate_left
    focus
     have ajQ:Hid (uj Z.data.toList (acc++[p])=uj s.data.toList []):=by
      show _=_
      rw[←Gf.out,hp]
      unfold Kt
      simp only[]
      rw[Qu _ _ _ HN.out,if_neg (by rw[decide_eq_true_iff];exact hm)]
    rotate_left
    all_goals
     have HMM:=hid hm
     clear hp hm
     go_wp2_with fail
     rw[←HY.out]
     generalize bI:wr.alloc _=wa
     have HXa:Hid (B2 130 wa wr.heap.size (.string ⟨#[]⟩) (.string ⟨#[]⟩)):=by show B2 _ _ _ _ _;rw[←bI];exact heap_alloc_new _ _
     have HBa:Hid (Below w.heap.size w wa):=by show Below _ _ _;rw[←bI];exact HB.out.alloc HB.out.size _
     have HOa:Hid (wa.ownsRow w.heap.size 130 2 u3 acc.length (bQ acc)):=by show World.ownsRow _ _ _ _ _ _ _;rw[←bI];exact HO.out.alloc _
     have HMa:Hid (Says wa w.heap.size k names):=by show Says _ _ _ _;rw[←bI];exact HM.out.kept (World.grownBy_alloc _ _ none) (by simp)
     have HOL:Hid (u3.ownBlock≠some wr.heap.size):=by
      show _≠_
      intro e
      have:=(HO.out.lt _ e).2
      omega
     have Za:Hid (w.heap.size≠wr.heap.size):=by show _≠_;have:=HM.out.lt;omega
     have hgw:w.heap.size≤wr.heap.size:=HB.out.size
     have HGW:=hid hgw
     clear bI HB HO HM hgw
     refine(TB.out _).mono ?_
     rintro e w2 ⟨⟨a,b,rfl,hab⟩,hb2⟩
     rw[←HZ.out,ajN.out]
     have HAB:=hid hab
     have gY:=hid (HXa.out.below hb2)
     have HB2:=hid (bel HBa.out hb2)
     have jy:=hid (aP HOa.out hb2)
     have cu:=hid (HMa.out.below hb2)
     clear hb2 hab HXa HBa HOa HMa
     obtain⟨f0,f1⟩:=gY.out.thaw
     obtain⟨k0,k1⟩:=gY.out.facts
     go_upto_region 7 with(fail)
     clear f0 f1 k0 k1
     generalize hw3:(w2.setCell _ _).setCell _ _=w3
     have jI:Hid (B2 130 w3 wr.heap.size (.string a) (.string b)):=by show B2 _ _ _ _ _;rw[←hw3];exact gY.out.put _ _
     have HB3:Hid (Below w.heap.size w w3):=by show Below _ _ _;rw[←hw3];exact(HB2.out.setCell HGW.out _).setCell HGW.out _
     have iV:Hid (w3.ownsRow w.heap.size 130 2 u3 acc.length (bQ acc)):=by show World.ownsRow _ _ _ _ _ _ _;rw[←hw3];exact uh (uh jy.out HOL.out) HOL.out
     have AB:Hid (Says w3 w.heap.size k names):=by show Says _ _ _ _;rw[←hw3];exact(cu.out.set Za.out).set Za.out
     clear hw3 gY HB2 jy cu
     obtain⟨ha,hb⟩:=HAB.out p HP.out
    ·have hlk:=AB.out.look a (by rw[ha,o9];unfold maxLen;omega)
     rw[show a.data.toList=p.1 by rw[ha];rfl,if_pos HMM.out]at hlk
     clear ha hb
     obtain⟨k0,k1⟩:=jI.out.facts
     go_wp2
     go_roundw
     case rel=>exact⟨Z,acc,names,k,rfl,iV.out,AB.out,HN.out,HB3.out,ajQ.out,by omega,by omega⟩
     case measure=>simp[ssize];omega
    have alN:a.size≤maxLen:=by rw[ha,o9];unfold maxLen;omega
    have hlk:=AB.out.look a alN
    rw[show a.data.toList=p.1 by rw[ha];rfl,if_neg HMM.out]at hlk
    obtain⟨w4,hput,hS4,hg4⟩:=AB.out.put a alN (by unfold maxLen;omega)
    rw[show a.data.toList=p.1 by rw[ha];rfl]at hS4
    have HS4:=hid hS4
    have JQ:Hid (B2 130 w4 wr.heap.size (.string a) (.string b)):=(hg4.block _ jI.out.lt (by intro e;injection e with e;exact Za.out e.symm)).trans jI.out
    have HB4:Hid (Below w.heap.size w w4):=HB3.out.grown hg4 HB3.out.size (fun g hg=>by injection hg with hg;omega)
    have Ti:Hid (w4.ownsRow w.heap.size 130 2 u3 acc.length (bQ acc)):=iV.out.kept hg4 (.inr (QT iV.out AB.out))
    have HAE:Hid (a=strOf p.1∧b=strOf p.2):=⟨ha,hb⟩
    clear ha hb hS4 hg4 alN
    obtain⟨k0,k1⟩:=jI.out.facts
    obtain⟨l0,l1⟩:=JQ.out.facts
    go_wp2_with (at_builtin;refine ab8 2 rfl _ _ 42 rfl w.heap.size 130 i0 _ 32 Tryz.underlying42 hi hz0 hz1 hz2 rfl (by decide) u3 acc.length (bQ acc) rfl Ti.out HB4.out HB4.out.size [.string a,.string b] 1 rfl rfl (agA a b) (by unfold maxLen;omega) (by omega) ?_)
    intro v' w5 hown5 mJ hgr5
    have HM5:Hid (Says w5 w.heap.size (k+1) (p.1::names)):=(HS4.out.kept (World.grownBy_alloc _ _ none) (by simp)).kept hgr5 (fun e=>QT Ti.out HS4.out e.symm)
    go_wp2
    go_roundw
    case rel=>exact⟨Z,acc++[p],p.1::names,k+1,rfl,by
      show World.ownsRow _ _ _ _ _ _ _
      rw[aa1,List.length_append,←HAE.out.1,←HAE.out.2]
      exact hown5,HM5.out,by
      show ∀x,_
      intro x
      have:=HN.out x
      simp only[List.mem_cons,List.map_append,List.mem_append,this]
      simp
      exact Or.comm,mJ,ajQ.out,by simp;omega,by omega⟩
    case measure=>simp[ssize];omega
end Go.Proofs.YtgamccijegollaaGreatDoor.OX
namespace Go.Proofs.YtgamccijegollaaGreatDoor.aj2
open Go.ChangeShapes Go.WideShapes Go.ChangeAt Go.RowKit Base
variable {P:Program} {w:World} {H:Type} {enc:TypeId×Value→H} {base:Nat} {held:Bool}
theorem PW {t e:TypeId} {k:IntKind} {fuel:Nat} {a:Option Addr} {len cap:Nat} {x:DataW H×List MemPlace} (ht:P.underlying t=some (.slice e)) (he:P.underlying e=some (.int k)) (hc:P.cellsOf e=1)
  (h:DataW.trod enc P w base (fun _=>true) held fuel t (Value.slice a len cap).cells.toList=some x):
  cap=0∨∃es sp,x.1=.slice es sp∧es.length+sp.length=cap:=by
 rcases open_ints ht he hc h with⟨hcs,_⟩|⟨_,l,c,zs,hcs,_,hl,hm,hz,rfl,_,_⟩
 ·simp[Value.cells]at hcs
  exact .inl hcs.2.2
 ·simp[Value.cells]at hcs
  obtain⟨rfl,rfl,rfl⟩:=hcs
  have hz':zs.length=cap:=by simpa using hz
  refine .inr ⟨_,_,rfl,?_⟩
  simp only[lits,List.length_map,List.length_take,List.length_drop]
  omega
theorem reach {ts:List TypeId} {ds:List (DataW H)} (hsz:(DataW.weightsEach P ts ds).all (·≤reachBytes)=true) {j:Nat} {t e:TypeId} {k:IntKind} {b fuel:Nat} {a:Option Addr} {len cap:Nat} {x:DataW H×List MemPlace}
  (htj:ts[j]?=some t) (hdj:ds[j]?=some x.1) (ht:P.underlying t=some (.slice e)) (he:P.underlying e=some (.int k)) (hc:P.cellsOf e=1) (hb:P.bytesOf e=b)
  (h:DataW.trod enc P w base (fun _=>true) held fuel t (Value.slice a len cap).cells.toList=some x):cap*b≤140737488351232:=by
 rcases PW ht he hc h with rfl|⟨es,sp,e1,hl⟩
 ·simp
 ·have:=sized_slice hsz htj (hdj.trans (congrArg some e1)) ht
  rw[hl,hb]at this
  exact this
theorem aar {ts:List TypeId} {ds:List (DataW H)} (hsz:(DataW.weightsEach P ts ds).all (·≤reachBytes)=true) {i:Nat} {t:TypeId} {fs:Array Field} {parts:List (DataW H)} (hti:ts[i]?=some t) (hdi:ds[i]?=some (.agg parts)) (hu:P.underlying t=some (.struct fs))
  {j:Nat} {ft:TypeId} {bytes:List UInt8} (hf:(fs.toList.map (·.type))[j]?=some ft) (hp:parts[j]?=some (.lit (.string bytes))):bytes.length≤reachBytes:=by
 have:=List.all_eq_true.1 hsz _ (DataW.weights_mem_each hti hdi bytes.length (by
  simp only[DataW.weights,hu]
  exact DataW.weights_mem_each hf hp _ (by simp[DataW.weights])))
 simpa using this
end Go.Proofs.YtgamccijegollaaGreatDoor.aj2
namespace Go.Proofs.YtgamccijegollaaGreatDoor.rC
open Go.ChangeShapes Go.WideShapes Go.ChangeAt Go.RowKit Go.Deep Base
def zH (w:World) (A:Option Addr) (n:Nat) (l:List (ByteArray×ByteArray)):Prop:=
 l.length=n∧∀j (h:j<l.length),∃b off,A=some ⟨b,off,none⟩∧b<w.heap.size∧w.cell? ⟨b,off+j*2,none⟩=some (.string l[j].1)∧w.cell? ⟨b,off+j*2+1,none⟩=some (.string l[j].2)
theorem zH.below {w w':World} {A:Option Addr} {n:Nat} {l:List (ByteArray×ByteArray)} (h:zH w A n l) (hb:Below w.heap.size w w'):zH w' A n l:=
 ⟨h.1,fun j hj=>by
  obtain⟨b,off,rfl,hlt,h1,h2⟩:=h.2 j hj
  exact⟨b,off,rfl,Nat.lt_of_lt_of_le hlt hb.size,(hb.cell (p:=⟨b,off+j*2,none⟩) hlt).trans h1,(hb.cell (p:=⟨b,off+j*2+1,none⟩) hlt).trans h2⟩⟩
theorem zH.under {B:Nat} {w w':World} {A:Option Addr} {n:Nat} {l:List (ByteArray×ByteArray)} (h:zH w A n l) (hb:Below B w w') (hB:w.heap.size≤B):zH w' A n l:=h.below (hb.mono hB)
section
variable {H:Type} {enc:TypeId×Value→H} {P:Program} {w:World} {base:Nat} {spare:Nat→Bool} {held:Bool}
end
variable {P:Program} {w:World} {H:Type} {enc:TypeId×Value→H} {base:Nat} {held:Bool} {spare:Nat→Bool}
end Go.Proofs.YtgamccijegollaaGreatDoor.rC
namespace Go.Proofs.YtgamccijegollaaGreatDoor.oG
open Go.RowKit Base Dp cO pU qg OW NG OX rC
def nY (l:List (List UInt8×List UInt8)):List (ByteArray×ByteArray):=l.map fun p=>(strOf p.1,strOf p.2)
theorem Ye (l:List (List UInt8×List UInt8)):(nY l).length=l.length:=by simp[nY]
theorem ah8 (l:List (List UInt8×List UInt8)):∀(j:Nat) (h:j<l.length),(bQ l)[j*2]?=some (.string (strOf l[j].1))∧(bQ l)[j*2+1]?=some (.string (strOf l[j].2)):=by
 induction l with
 |nil=>intro j h;simp at h
 |cons p l ih=>
  intro j h
  have e:bQ (p::l)=.string (strOf p.1)::.string (strOf p.2)::bQ l:=rfl
  rw[e]
  cases j with
  |zero=>exact⟨rfl,rfl⟩
  |succ j=>
   have:=ih j (by simpa using h)
   rw[show(j+1)*2=j*2+1+1 by omega]
   simpa using this
theorem own_prm {w:World} {B:Nat} {v:Value} {l:List (List UInt8×List UInt8)} (h:w.ownsRow B 130 2 v l.length (bQ l)):∃A c,v=.slice A l.length c∧l.length≤c∧c≤maxLen∧zH w A l.length (nY l):=by
 rcases h.2 with⟨rfl,h0⟩|⟨g,cap,cur,rfl,_,hh,hnc,hcm,_,htake⟩
 ·have:l=[]:=List.eq_nil_of_length_eq_zero h0
  subst this
  exact⟨none,0,rfl,Nat.le_refl _,Nat.zero_le _,rfl,fun j hj=>by simp[nY]at hj⟩
 refine⟨some ⟨g,0,none⟩,cap,rfl,hnc,hcm,by rw[Ye],fun j hj=>?_⟩
 rw[Ye]at hj
 obtain⟨h0,h1⟩:=ah8 l j hj
 refine⟨g,0,rfl,(Array.getElem?_eq_some_iff.1 hh).1,?_,?_⟩
 ·rw[h.cellAt _ (by omega),Nat.zero_add]
  simpa[nY]using h0
 rw[h.cellAt _ (by omega),Nat.zero_add]
 simpa[nY]using h1
def B3 (T:TypeId) (w:World) (g:Nat) (a b c:Value):Prop:=w.heap[g]?=some (.cells #[a,b,c] T (0,0))
section
variable {T:TypeId} {w w':World} {g:Nat} {a b c:Value}
theorem B3.lt (h:B3 T w g a b c):g<w.heap.size:=(Array.getElem?_eq_some_iff.1 h).1
theorem B3.facts (h:B3 T w g a b c):w.cell? ⟨g,0,none⟩=some a∧w.cell? ⟨g,1,none⟩=some b∧w.cell? ⟨g,2,none⟩=some c:=
 ⟨cell_of_row w g 0 _ _ _ h,cell_of_row w g 1 _ _ _ h,cell_of_row w g 2 _ _ _ h⟩
theorem B3.thaw (h:B3 T w g a b c):w.frozen? ⟨g,0,none⟩=false∧w.frozen? ⟨g,1,none⟩=false∧w.frozen? ⟨g,2,none⟩=false:=
 ⟨frozen_of_row w g 0 _ _ h,frozen_of_row w g 1 _ _ h,frozen_of_row w g 2 _ _ h⟩
theorem B3.below (h:B3 T w g a b c) (hb:Below w.heap.size w w'):B3 T w' g a b c:=(hb.block g h.lt).trans h
def Uj (w:World) (g:Nat) (a b c:Value):World:=((w.setCell ⟨g,0,none⟩ a).setCell ⟨g,1,none⟩ b).setCell ⟨g,2,none⟩ c
theorem B3.put (h:B3 T w g a b c) (x y z:Value):B3 T (Uj w g x y z) g x y z:=
 heap_setCell_same _ g 2 _ _ z (heap_setCell_same _ g 1 _ _ y (heap_setCell_same w g 0 _ _ x h))
theorem zN {w0:World} {B:Nat} (h:Below B w0 w) (hg:B≤g) (x y z:Value):Below B w0 (Uj w g x y z):=((h.setCell hg _).setCell hg _).setCell hg _
end
theorem B3.load {w:World} {g:Nat} {a b c:Value} (h:B3 44 w g a b c):(loadVar 44 ⟨g,0,none⟩).run Tryz.prog w=.ok (.agg #[a,b,c]) w:=
 run_loadVar_row w g _ _ #[a,b,c] (0,0) _ h Tryz.underlying44 rfl (by
  rw[show(Tryz.prog.info? 44).map (·.size)=some 3 by kernel_rfl]
  rfl)
theorem prm_put {w:World} {g n:Nat} {A:Option Addr} {l:List (ByteArray×ByteArray)} (h:zH w A n l) (hA:∀b off,A=some ⟨b,off,none⟩→b≠g) (x y z:Value):zH (Uj w g x y z) A n l:=
 ⟨h.1,fun j hj=>by
  obtain⟨b,off,rfl,hlt,h1,h2⟩:=h.2 j hj
  have hne:=hA b off rfl
  have hk:∀o,(Uj w g x y z).cell? ⟨b,o,none⟩=w.cell? ⟨b,o,none⟩:=fun o=>by
   unfold Uj
   rw[World.cell?_setCell_other _ _ _ _ (by intro e;injection e with e;exact hne e.symm),World.cell?_setCell_other _ _ _ _ (by intro e;injection e with e;exact hne e.symm),World.cell?_setCell_other _ _ _ _ (by intro e;injection e with e;exact hne e.symm)]
  exact⟨b,off,rfl,by simpa[Uj]using hlt,by rw[hk];exact h1,by rw[hk];exact h2⟩⟩
theorem Yo {w:World} {g:Nat} {a b c:Value} (h:B3 44 w g a b c) (ok:Bool) (tmps:Array Value) (h2:tmps.getD 2 undef=.pointer (some ⟨g,0,none⟩)) (h3:tmps.getD 3 undef=.bool ok):
  (results Tryz.f176 tmps).run Tryz.prog w=.ok (.tuple #[.agg #[a,b,c],.bool ok]) w:=by
 have hp':tmps[2]?.getD undef=.pointer (some ⟨g,0,none⟩):=by simpa using h2
 have hq':tmps[3]?.getD undef=.bool ok:=by simpa using h3
 simp[results,Tryz.results176,hp',hq',asAddr,h.load]
def Oe:MT:=⟨[],[],[]⟩
def MtR (o:Option MT) (e:Ending) (w':World):Prop:=∃A c,e=.returned (.tuple #[.agg #[.string (strOf (o.getD Oe).ty),.string (strOf (o.getD Oe).sub),.slice A (o.getD Oe).ps.length c],.bool o.isSome])∧(o.getD Oe).ps.length≤c∧c≤maxLen∧zH w' A (o.getD Oe).ps.length (nY (o.getD Oe).ps)
theorem parse_any (s:ByteArray) (w:World) (hs:s.size≤1048576):Calls Tryz.prog 176 #[.string s] w fun e w'=>MtR (mime s.data.toList) e w'∧Below w.heap.size w w':=by
 have hl:s.data.toList.length=s.size:=Array.length_toList
 obtain⟨o,ho⟩:∃o,o=mime s.data.toList:=⟨_,rfl⟩
 rw[←ho]
 obtain⟨T,hT⟩:∃T:ByteArray,T=strOf (ru s.data.toList):=⟨_,rfl⟩
 have hTd:T.data.toList=ru s.data.toList:=by rw[hT];rfl
 have hTs:T.size≤1048576:=by rw[hT,o9];have:=agx s.data.toList;omega
 have htl:T.data.toList.length=T.size:=Array.length_toList
 have HTR:Hid (∀w,Calls Tryz.prog 259 #[.string s] w fun e w'=>e=.returned (.string T)∧Below w.heap.size w w'):=by
  show ∀w,_
  rw[hT]
  exact fun w=>Zz.anS s w (by omega)
 have BD:=hid (fun w=>split47 T w (by omega))
 obtain⟨K,hK⟩:∃K,K=strOf (tw [47] T.data.toList):=⟨_,rfl⟩
 obtain⟨B,hB⟩:∃B,B=strOf (dw [47] T.data.toList):=⟨_,rfl⟩
 rw[←hK,←hB]at BD
 have hKd:K.data.toList=tw [47] (ru s.data.toList):=by rw[hK,←hTd];rfl
 have hBd:B.data.toList=dw [47] (ru s.data.toList):=by rw[hB,←hTd];rfl
 have hKs:K.size≤1048576:=by rw[hK,o9];have:=AY [47] T.data.toList;omega
 have hBs:B.size≤1048576:=by rw[hB,o9];have:=zX [47] T.data.toList;omega
 have hbl:B.data.toList.length=B.size:=Array.length_toList
 have hnone:∀{w2 w3:World} (e:Ending),Below w.heap.size w w3→o=none→e=.returned (.tuple #[.agg #[.string ⟨#[]⟩,.string ⟨#[]⟩,.slice none 0 0],.bool false])→MtR o e w3:=by
  intro w2 w3 e _ h1 h2
  rw[h1,h2]
  exact⟨none,0,rfl,Nat.le_refl _,Nat.zero_le _,rfl,fun j hj=>by simp[nY,Oe]at hj⟩
 have ajF:=hid (fun(e:Ending) (w3:World) (h1:o=none) (h2:e=.returned (.tuple #[.agg #[.string ⟨#[]⟩,.string ⟨#[]⟩,.slice none 0 0],.bool false]))=>(show MtR o e w3 by
  rw[h1,h2]
  exact⟨none,0,rfl,Nat.le_refl _,Nat.zero_le _,rfl,fun j hj=>by simp[nY,Oe]at hj⟩))
 clear hnone
 cases hb:B.data.toList with
 |nil=>
  have HO:Hid (o=none):=by show _=_;rw[ho];unfold mime;rw[←hBd,hb]
  have hq1:=AU hb
  have hq2:(B.toList==[])=true:=by rw[hq1];rfl
  clear ho hT hTd hTs htl hK hB hKd hBd hKs hBs hbl hb hq1 hl
  go_enter Tryz.func176,Tryz.ntmps176
  go_upto_region 1 with(fail)
  generalize hw1:w.alloc _=w1
  have HB1:Hid (Below w.heap.size w w1):=by show Below _ _ _;rw[←hw1];exact(Below.refl _ _).alloc (Nat.le_refl _) _
  have kP:Hid (B3 44 w1 w.heap.size (.string ⟨#[]⟩) (.string ⟨#[]⟩) (.slice none 0 0)):=by show B3 _ _ _ _ _ _;rw[←hw1];exact heap_alloc_new _ _
  clear hw1
  go_wp2_with fail
  refine(HTR.out _).mono ?_
  rintro e w2 ⟨rfl,hb2⟩
  have gY:=hid (kP.out.below hb2)
  have HB2:=hid (bel HB1.out hb2)
  clear hb2
  go_wp2_with fail
  refine(BD.out _).mono ?_
  rintro e w3 ⟨rfl,hb3⟩
  have jI:=hid (gY.out.below hb3)
  have HB3:=hid (bel HB2.out hb3)
  clear hb3
  obtain⟨f0,f1,f2⟩:=jI.out.thaw
  obtain⟨k0,k1,k2⟩:=jI.out.facts
  go_wp2
  refine bodyPost_ret (w:=Uj _ w.heap.size _ _ _) (Yo (jI.out.put _ _ _) false _ rfl rfl) rfl ⟨ajF.out _ _ HO.out rfl,zN HB3.out (Nat.le_refl _) _ _ _⟩
 | cons c r=>
  have hq1:(B.toList==[])=false:=by rw[Lib.toList_data,hb];rfl
  have hq2:B.toList.isEmpty=false:=by rw[Lib.toList_data,hb];rfl
  have hq3:¬B.toList=[]:=by rw[Lib.toList_data,hb];simp
  have hB1:1≤B.size:=by rw[←hbl,hb];simp
  have h1i:(1:Int)≤(B.size:Int):=by omega
  obtain⟨Y,hY⟩:∃Y,Y=B.extract 1 B.size:=⟨_,rfl⟩
  have hYd:Y.data.toList=r:=by rw[hY,ext_drop,hb];rfl
  have hYs:Y.size≤1048576:=by rw[hY,ByteArray.size_extract];omega
  have hyl:Y.data.toList.length=Y.size:=Array.length_toList
  have HS2:=hid (fun w=>Yx Y w (by omega))
  obtain⟨S,hS⟩:∃S,S=strOf (tw [59] Y.data.toList):=⟨_,rfl⟩
  obtain⟨R,hR⟩:∃R,R=strOf (dw [59] Y.data.toList):=⟨_,rfl⟩
  rw[←hS,←hR]at HS2
  have XK:S.size≤1048576:=by rw[hS,o9];have:=AY [59] Y.data.toList;omega
  have hRs:R.size≤1048576:=by rw[hR,o9];have:=zX [59] Y.data.toList;omega
  have hSd:S.data.toList=tw [59] r:=by rw[hS,hYd];rfl
  have BR:R.data.toList=dw [59] r:=by rw[hR,hYd];rfl
  obtain⟨U,hU⟩:∃U:ByteArray,U=strOf (tr S.data.toList):=⟨_,rfl⟩
  have hUd:U.data.toList=tr (tw [59] r):=by rw[hU,←hSd];rfl
  have hsl:S.data.toList.length=S.size:=Array.length_toList
  have hUs:U.size≤1048576:=by rw[hU,o9];have:=Sl S.data.toList;omega
  have UC:Hid (∀w,Calls Tryz.prog 260 #[.string S] w fun e w'=>e=.returned (.string U)∧Below w.heap.size w w'):=by
   show ∀w,_
   rw[hU]
   exact fun w=>Zz.zi S w (by omega)
  have hk:=fun w=>Gn.QC K w (by omega)
  have hu:=fun w=>Gn.QC U w (by omega)
  have hom:o=if (dP K.data.toList&&dP U.data.toList)=true then some ⟨lower K.data.toList,lower U.data.toList,uj R.data.toList []⟩else none:=by
   rw[ho,hKd,hUd,BR]
   unfold mime
   rw[←hBd,hb]
  have HY:=hid hY
  obtain⟨LK,hLK⟩:∃L:ByteArray,L=strOf (lower K.data.toList):=⟨_,rfl⟩
  obtain⟨LU,hLU⟩:∃L:ByteArray,L=strOf (lower U.data.toList):=⟨_,rfl⟩
  have HLK:Hid (∀w,Calls Tryz.prog 113 #[.string K] w fun e w'=>e=.returned (.string LK)∧Below w.heap.size w w'):=by
   show ∀w,_
   rw[hLK]
   exact fun w=>cO.gI K w (by unfold maxLen;omega)
  have SA:Hid (∀w,Calls Tryz.prog 113 #[.string U] w fun e w'=>e=.returned (.string LU)∧Below w.heap.size w w'):=by
   show ∀w,_
   rw[hLU]
   exact fun w=>cO.gI U w (by unfold maxLen;omega)
  have HLS:Hid (LK=strOf (lower K.data.toList)∧LU=strOf (lower U.data.toList)):=⟨hLK,hLU⟩
  have HPM:=hid (fun w=>QW R w hRs)
  clear ho hT hTd hTs htl hK hB hKd hBd hKs hBs hbl hb hl hY hYd hYs hyl hS hR XK hRs hSd BR hU hUd hsl hUs hLK hLU
  cases hki:dP K.data.toList with
  |false=>
   have HO:Hid (o=none):=by show _=_;rw[hom,hki];rfl
   rw[hki]at hk
   have HK:=hid hk
   clear hk hu hom hki
   go_enter Tryz.func176,Tryz.ntmps176
   go_upto_region 1 with(fail)
   generalize hw1:w.alloc _=w1
   have HB1:Hid (Below w.heap.size w w1):=by show Below _ _ _;rw[←hw1];exact(Below.refl _ _).alloc (Nat.le_refl _) _
   have kP:Hid (B3 44 w1 w.heap.size (.string ⟨#[]⟩) (.string ⟨#[]⟩) (.slice none 0 0)):=by show B3 _ _ _ _ _ _;rw[←hw1];exact heap_alloc_new _ _
   clear hw1
   go_wp2_with fail
   refine(HTR.out _).mono ?_
   rintro e w2 ⟨rfl,hb2⟩
   have gY:=hid (kP.out.below hb2)
   have HB2:=hid (bel HB1.out hb2)
   clear hb2
   go_wp2_with fail
   refine(BD.out _).mono ?_
   rintro e w3 ⟨rfl,hb3⟩
   have jI:=hid (gY.out.below hb3)
   have HB3:=hid (bel HB2.out hb3)
   clear hb3
   go_wp2_with fail
   rw[←HY.out]
   refine(HS2.out _).mono ?_
   rintro e w4 ⟨rfl,hb4⟩
   have JQ:=hid (jI.out.below hb4)
   have HB4:=hid (bel HB3.out hb4)
   clear hb4
   go_wp2_with fail
   refine(UC.out _).mono ?_
   rintro e w5 ⟨rfl,hb5⟩
   have Zk:=hid (JQ.out.below hb5)
   have iG:=hid (bel HB4.out hb5)
   clear hb5
   go_wp2_with fail
   refine(HK.out _).mono ?_
   rintro e w6 ⟨rfl,hw6⟩
   subst hw6
   obtain⟨f0,f1,f2⟩:=Zk.out.thaw
   obtain⟨k0,k1,k2⟩:=Zk.out.facts
   go_wp2
   refine bodyPost_ret (w:=Uj _ w.heap.size _ _ _) (Yo (Zk.out.put _ _ _) false _ rfl rfl) rfl ⟨ajF.out _ _ HO.out rfl,zN iG.out (Nat.le_refl _) _ _ _⟩
  | true=>
   rw[hki]at hk
   have HK:=hid hk
   cases hui:dP U.data.toList with
   |false=>
    have HO:Hid (o=none):=by show _=_;rw[hom,hki,hui];rfl
    rw[hui]at hu
    have HU:=hid hu
    clear hk hu hom hki hui
    go_enter Tryz.func176,Tryz.ntmps176
    go_upto_region 1 with(fail)
    generalize hw1:w.alloc _=w1
    have HB1:Hid (Below w.heap.size w w1):=by show Below _ _ _;rw[←hw1];exact(Below.refl _ _).alloc (Nat.le_refl _) _
    have kP:Hid (B3 44 w1 w.heap.size (.string ⟨#[]⟩) (.string ⟨#[]⟩) (.slice none 0 0)):=by show B3 _ _ _ _ _ _;rw[←hw1];exact heap_alloc_new _ _
    clear hw1
    go_wp2_with fail
    refine(HTR.out _).mono ?_
    rintro e w2 ⟨rfl,hb2⟩
    have gY:=hid (kP.out.below hb2)
    have HB2:=hid (bel HB1.out hb2)
    clear hb2
    go_wp2_with fail
    refine(BD.out _).mono ?_
    rintro e w3 ⟨rfl,hb3⟩
    have jI:=hid (gY.out.below hb3)
    have HB3:=hid (bel HB2.out hb3)
    clear hb3
    go_wp2_with fail
    rw[←HY.out]
    refine(HS2.out _).mono ?_
    rintro e w4 ⟨rfl,hb4⟩
    have JQ:=hid (jI.out.below hb4)
    have HB4:=hid (bel HB3.out hb4)
    clear hb4
    go_wp2_with fail
    refine(UC.out _).mono ?_
    rintro e w5 ⟨rfl,hb5⟩
    have Zk:=hid (JQ.out.below hb5)
    have iG:=hid (bel HB4.out hb5)
    clear hb5
    go_wp2_with fail
    refine(HK.out _).mono ?_
    rintro e w6 ⟨rfl,hw6⟩
    subst hw6
    go_wp2_with fail
    refine(HU.out _).mono ?_
    rintro e w6 ⟨rfl,hw6⟩
    subst hw6
    obtain⟨f0,f1,f2⟩:=Zk.out.thaw
    obtain⟨k0,k1,k2⟩:=Zk.out.facts
    go_wp2
    refine bodyPost_ret (w:=Uj _ w.heap.size _ _ _) (Yo (Zk.out.put _ _ _) false _ rfl rfl) rfl ⟨ajF.out _ _ HO.out rfl,zN iG.out (Nat.le_refl _) _ _ _⟩
   |true=>
    have HO:Hid (o=some ⟨lower K.data.toList,lower U.data.toList,uj R.data.toList []⟩):=by show _=_;rw[hom,hki,hui];rfl
    rw[hui]at hu
    have HU:=hid hu
    clear hk hu hom hki hui
    go_enter Tryz.func176,Tryz.ntmps176
    go_upto_region 1 with(fail)
    generalize hw1:w.alloc _=w1
    have HB1:Hid (Below w.heap.size w w1):=by show Below _ _ _;rw[←hw1];exact(Below.refl _ _).alloc (Nat.le_refl _) _
    have kP:Hid (B3 44 w1 w.heap.size (.string ⟨#[]⟩) (.string ⟨#[]⟩) (.slice none 0 0)):=by show B3 _ _ _ _ _ _;rw[←hw1];exact heap_alloc_new _ _
    clear hw1
    go_wp2_with fail
    refine(HTR.out _).mono ?_
    rintro e w2 ⟨rfl,hb2⟩
    have gY:=hid (kP.out.below hb2)
    have HB2:=hid (bel HB1.out hb2)
    clear hb2
    go_wp2_with fail
    refine(BD.out _).mono ?_
    rintro e w3 ⟨rfl,hb3⟩
    have jI:=hid (gY.out.below hb3)
    have HB3:=hid (bel HB2.out hb3)
    clear hb3
    go_wp2_with fail
    rw[←HY.out]
    refine(HS2.out _).mono ?_
    rintro e w4 ⟨rfl,hb4⟩
    have JQ:=hid (jI.out.below hb4)
    have HB4:=hid (bel HB3.out hb4)
    clear hb4
    go_wp2_with fail
    refine(UC.out _).mono ?_
    rintro e w5 ⟨rfl,hb5⟩
    have Zk:=hid (JQ.out.below hb5)
    have iG:=hid (bel HB4.out hb5)
    clear hb5
    go_wp2_with fail
    refine(HK.out _).mono ?_
    rintro e w6 ⟨rfl,hw6⟩
    subst hw6
    go_wp2_with fail
    refine(HU.out _).mono ?_
    rintro e w6 ⟨rfl,hw6⟩
    subst hw6
    go_wp2_with fail
    refine(HLK.out _).mono ?_
    rintro e w7 ⟨rfl,hb7⟩
    have Gg:=hid (Zk.out.below hb7)
    have kZ:=hid (bel iG.out hb7)
    clear hb7
    go_wp2_with fail
    refine(SA.out _).mono ?_
    rintro e w8 ⟨rfl,hb8⟩
    have HX8:=hid (Gg.out.below hb8)
    have H7:=hid (bel kZ.out hb8)
    clear hb8
    go_wp2_with fail
    refine(HPM.out _).mono ?_
    rintro e w9 ⟨v,rfl,hown,mG⟩
    have HNB:Hid (v.ownBlock≠some w.heap.size):=by
     show _≠_
     intro e
     have:=(hown.lt _ e).1
     have:=HX8.out.lt
     omega
    obtain⟨A,cp,rfl,hc1,hc2,hprm⟩:=own_prm hown
    have HX9:=hid (HX8.out.below mG)
    have Y0:=hid (bel H7.out mG)
    have HPRM:=hid hprm
    clear mG hown hprm
    obtain⟨f0,f1,f2⟩:=HX9.out.thaw
    obtain⟨k0,k1,k2⟩:=HX9.out.facts
    go_wp2
    refine bodyPost_ret (w:=Uj _ w.heap.size _ _ _) (Yo (HX9.out.put _ _ _) true _ rfl rfl) rfl ⟨?_,zN Y0.out (Nat.le_refl _) _ _ _⟩
    rw[HO.out]
    refine⟨A,cp,?_,hc1,hc2,prm_put HPRM.out ?_ _ _ _⟩
    ·rw[HLS.out.1,HLS.out.2];rfl
    rintro b off rfl
    intro e
    exact HNB.out (by rw[←e];rfl)
end Go.Proofs.YtgamccijegollaaGreatDoor.oG
namespace Go.Proofs.YtgamccijegollaaGreatDoor.sV
open Go.RowKit Base cO pU qg
abbrev PL:=List (List UInt8×List UInt8)
theorem dn {p:UInt8→Prop} [∀c,Decidable (p c)] (h:∀n:Fin 256,p (UInt8.ofNat n.val)) (c:UInt8):p c:=by
 have:=h ⟨c.toNat,c.toNat_lt⟩
 simpa using this
theorem nM (c:UInt8) (h:FX c=true):c ∉ blanks∧c≠34∧c≠47∧c≠59∧c≠61:=
 dn (p:=fun c=>FX c=true→c ∉ blanks∧c≠34∧c≠47∧c≠59∧c≠61) (by decide+kernel) c h
theorem tch_low (c:UInt8):FX (low c)=FX c:=dn (p:=fun c=>FX (low c)=FX c) (by decide+kernel) c
theorem XY (c:UInt8):low (low c)=low c:=dn (p:=fun c=>low (low c)=low c) (by decide+kernel) c
theorem wV (L:List UInt8):lower (lower L)=lower L:=by
 unfold lower
 rw[List.map_map]
 exact List.map_congr_left fun c _=>XY c
theorem MV (L:List UInt8):dP (lower L)=dP L:=by
 unfold dP lower
 rw[List.all_map]
 congr 1
 ·congr 1
  funext c
  exact tch_low c
 cases L<;>rfl
theorem mg {L:List UInt8} (h:dP L=true) {c:UInt8} (hc:c ∈ L):FX c=true:=by
 unfold dP at h
 rw[Bool.and_eq_true]at h
 exact List.all_eq_true.1 h.1 c hc
theorem En {L:List UInt8} (h:dP L=true):L≠[]:=by
 rintro rfl
 simp[dP]at h
def RG (L:List UInt8):Bool:=dP L&&decide (lower L=L)
theorem LD {L:List UInt8} (h:dP L=true):RG (lower L)=true:=by unfold RG;rw[MV,h,wV];simp
theorem nK {L:List UInt8} (h:RG L=true):dP L=true∧lower L=L:=by unfold RG at h;simpa using h
def yU (ps:PL) (k:Nat):Bool:=match ps[k]? with
 |none=>true
 |some p=>RG p.1&&(!(GH p.1 (ps.take k))&&CV.quotable p.2)
def qG (ps:PL) (k:Nat):Bool:=(List.range k).all (yU ps)
theorem Nl (ps:PL) (k:Nat):qG ps (k+1)=(qG ps k&&yU ps k):=by unfold qG;rw[List.range_succ,List.all_append];simp
theorem aiz (ps:PL) (k:Nat) (h:yU ps k=false) (n:Nat) (hn:k<n):qG ps n=false:=by
 cases e:qG ps n with
 |false=>rfl
 |true=>
  have:=List.all_eq_true.1 e k (by simpa using hn)
  rw[this]at h
  cases h
def G7 (ps:PL):Bool:=qG ps ps.length
def fD (ty sub:List UInt8) (ps:PL):Bool:=RG ty&&(RG sub&&G7 ps)
def Au (v:List UInt8):List UInt8:=if dP v=true then v else qq v
def Q9 (p:List UInt8×List UInt8):List UInt8:=59::(p.1++61::Au p.2)
def pps (ps:PL):List UInt8:=ps.flatMap Q9
def ess (ty sub:List UInt8):List UInt8:=ty++47::sub
def dS (ty sub:List UInt8) (ps:PL):List UInt8:=ess ty sub++pps ps
theorem Ot:pps []=[]:=rfl
theorem Jl (p:List UInt8×List UInt8) (ps:PL):pps (p::ps)=Q9 p++pps ps:=by simp[pps]
theorem Rh (ps:PL) (p:List UInt8×List UInt8):pps (ps++[p])=pps ps++Q9 p:=by simp[pps]
theorem anb (v:List UInt8):(Au v).length≤2*v.length+2:=by
 unfold Au
 split
 ·omega
 exact ane v
theorem YE {st L:List UInt8} {c:UInt8} (r:List UInt8) (h:∀x ∈ L,st.contains x=false) (hc:st.contains c=true):tw st (L++c::r)=L∧dw st (L++c::r)=c::r:=by
 unfold tw dw
 induction L with
 |nil=>simp only[List.nil_append,List.takeWhile_cons,List.dropWhile_cons,hc];exact⟨rfl,rfl⟩
 |cons x L ih=>
  have hx:=h x (by simp)
  obtain⟨i1,i2⟩:=ih fun y hy=>h y (by simp[hy])
  simp only[List.cons_append,List.takeWhile_cons,List.dropWhile_cons,hx,Bool.not_false,if_true]
  exact⟨by rw[i1],i2⟩
theorem anW {st L:List UInt8} (h:∀x ∈ L,st.contains x=false):tw st L=L∧dw st L=[]:=by
 unfold tw dw
 induction L with
 |nil=>exact⟨rfl,rfl⟩
 |cons x L ih=>
  have hx:=h x (by simp)
  obtain⟨i1,i2⟩:=ih fun y hy=>h y (by simp[hy])
  simp only[List.takeWhile_cons,List.dropWhile_cons,hx,Bool.not_false,if_true]
  exact⟨by rw[i1],i2⟩
def Beh (Y:List UInt8):Prop:=Y=[]∨∃r,Y=59::r
theorem dw_beh {Y:List UInt8} (h:Beh Y):dw [59] Y=Y:=by
 rcases h with rfl|⟨r,rfl⟩
 ·rfl
 exact(YE (L:=[]) r (by simp) (by decide)).2
theorem anX {v Y:List UInt8} (hv:∀x ∈ v,x≠59) (h:Beh Y):tw [59] (v++Y)=v∧dw [59] (v++Y)=Y:=by
 have hv':∀x ∈ v,([59]:List UInt8).contains x=false:=fun x hx=>by simpa using hv x hx
 rcases h with rfl|⟨r,rfl⟩
 ·rw[List.append_nil];exact anW hv'
 exact YE r hv' (by decide)
theorem tr_nb (M s:List UInt8) (c:UInt8) (hc:c ∉ blanks):tr (M++c::s)=M++c::tr s:=by
 have hb:blanks.contains c=false:=by simpa using hc
 unfold tr Lib.trimRightS
 rw[List.reverse_append,List.reverse_cons,List.append_assoc,List.dropWhile_append]
 split
 ·rename_i h
  have h':s.reverse.dropWhile (fun x=>blanks.contains x)=[]:=by simpa using h
  rw[h']
  show(List.dropWhile _ (c::M.reverse)).reverse=_
  rw[List.dropWhile_cons,hb]
  simp
 simp
theorem tr_end (M:List UInt8) (c:UInt8) (hc:c ∉ blanks):tr (M++[c])=M++[c]:=tr_nb M [] c hc
theorem YB (r:List UInt8) (c:UInt8) (hc:c ∉ blanks):tl (c::r)=c::r:=by
 have hb:blanks.contains c=false:=by simpa using hc
 unfold tl Lib.trimLeftS
 rw[List.dropWhile_cons,hb]
 rfl
def Ends (L:List UInt8):Prop:=∃M c,L=M++[c]∧c ∉ blanks
theorem Ends.app {b:List UInt8} (a:List UInt8) (h:Ends b):Ends (a++b):=by
 obtain⟨M,c,rfl,hc⟩:=h
 exact⟨a++M,c,by simp,hc⟩
theorem Ends.tr {L:List UInt8} (h:Ends L):tr L=L:=by
 obtain⟨M,c,rfl,hc⟩:=h
 exact tr_end M c hc
theorem ahq {L:List UInt8} (h:L≠[]) (hb:∀c ∈ L,c ∉ blanks):Ends L:=
 ⟨L.dropLast,L.getLast h,(List.dropLast_concat_getLast h).symm,hb _ (List.getLast_mem h)⟩
theorem IB {L:List UInt8} (h:dP L=true):Ends L:=ahq (En h) fun c hc=>(nM c (mg h hc)).1
theorem ahr (v:List UInt8):Ends (Au v):=by
 unfold Au
 split
 ·rename_i h;exact IB h
 exact⟨34::qt v,34,rfl,by decide⟩
theorem aag:∀(ps:PL) (X:List UInt8),Ends X→Ends (X++pps ps)
 |[],X,h=>by rw[Ot,List.append_nil];exact h
 |p::ps,X,h=>by
  rw[Jl,←List.append_assoc]
  refine aag ps _ ?_
  refine Ends.app X ?_
  show Ends (59::(p.1++61::Au p.2))
  exact Ends.app (59::p.1++[61]) (ahr p.2)|>fun h=>by simpa using h
theorem vl_pval {v Y:List UInt8} (hY:Beh Y):vl (Au v++Y)=(v,true,Y):=by
 unfold Au
 split
 ·rename_i h
  obtain⟨c,r,rfl⟩:∃c r,v=c::r:=by
   cases v with
   |nil=>exact absurd rfl (En h)
   |cons c r=>exact⟨c,r,rfl⟩
  have hq:jT (c::r++Y)=([],0):=by
   rw[List.cons_append,jT,if_neg (nM c (mg h (by simp))).2.1]
  obtain⟨h1,h2⟩:=anX (v:=c::r) (fun x hx=>(nM x (mg h hx)).2.2.2.1) hY
  unfold vl
  rw[hq,if_neg (by decide),h1,h2,(IB h).tr]
  simp
 unfold vl
 have h0:0<(qq v).length:=by simp[qq]
 rw[qval_qq]
 simp only[]
 rw[if_pos h0,List.drop_left,dw_beh hY]
theorem am2 {n Z:List UInt8} (hn:dP n=true):pm (n++61::Z)=(if ((vl Z).2.1&&dP n&&CV.quotable (vl Z).1)=true then some (lower n,(vl Z).1)else none,(vl Z).2.2):=by
 obtain⟨c,r,rfl⟩:∃c r,n=c::r:=by
  cases n with
  |nil=>exact absurd rfl (En hn)
  |cons c r=>exact⟨c,r,rfl⟩
 have htl:tl (c::r++61::Z)=c::r++61::Z:=YB _ c (nM c (mg hn (by simp))).1
 obtain⟨h1,h2⟩:=YE (st:=[59,61]) (L:=c::r) (c:=61) Z (fun x hx=>by
  have:=nM x (mg hn hx)
  simp[this.2.2.2.1,this.2.2.2.2]) (by decide)
 unfold pm
 rw[htl,h1,h2]
 simp only[]
 rw[if_neg (by decide)]
 rfl
theorem pm_one {p:List UInt8×List UInt8} {Y:List UInt8} (hn:RG p.1=true) (hq:CV.quotable p.2=true) (hY:Beh Y):pm (p.1++61::(Au p.2++Y))=(some p,Y):=by
 obtain⟨h1,h2⟩:=nK hn
 rw[am2 h1,vl_pval hY]
 simp only[]
 rw[h1,hq,h2]
 rfl
theorem af7 (ps:PL) {X:List UInt8} (h:Beh X):Beh (pps ps++X):=by
 cases ps with
 |nil=>exact h
 |cons p ps=>exact .inr ⟨_,by rw[Jl];rfl⟩
theorem aa8:∀(r acc:PL) (X:List UInt8),Beh X→(∀k,acc.length≤k→k<(acc++r).length→yU (acc++r) k=true)→uj (pps r++X) acc=uj X (acc++r)
 |[],acc,X,_,_=>by rw[Ot,List.append_nil];rfl
 |p::r,acc,X,hX,h=>by
  have h0:=h acc.length (Nat.le_refl _) (by simp)
  unfold yU at h0
  rw[List.getElem?_append_right (Nat.le_refl _),Nat.sub_self,List.getElem?_cons_zero]at h0
  simp only[List.take_left,Bool.and_eq_true,Bool.not_eq_true']at h0
  obtain⟨h1,h2,h3⟩:=h0
  have e:pps (p::r)++X=59::(p.1++61::(Au p.2++(pps r++X))):=by rw[Jl];simp[Q9]
  rw[e,Lr,pm_one h1 h3 (af7 r hX)]
  unfold Kt
  simp only[]
  rw[h2,if_neg (by decide),aa8 r (acc++[p]) X hX (by
   intro k hk1 hk2
   have e2:acc++[p]++r=acc++p::r:=by simp
   rw[e2]at hk2⊢
   exact h k (by simp at hk1;omega) hk2)]
  simp
theorem D6 {ps:PL} (h:G7 ps=true) (k:Nat) (hk:k<ps.length):yU ps k=true:=List.all_eq_true.1 h k (by simpa using hk)
theorem aaO {ty sub:List UInt8} {ps:PL} {X:List UInt8} (h:fD ty sub ps=true) (hX:Beh X) (hT:ru (dS ty sub ps++X)=dS ty sub ps++X):mime (dS ty sub ps++X)=some ⟨ty,sub,uj X ps⟩:=by
 unfold fD at h
 simp only[Bool.and_eq_true]at h
 obtain⟨h1,h2,h3⟩:=h
 obtain⟨t1,t2⟩:=nK h1
 obtain⟨s1,s2⟩:=nK h2
 have e:dS ty sub ps++X=ty++47::(sub++(pps ps++X)):=by simp[dS,ess]
 obtain⟨w1,w2⟩:=YE (st:=[47]) (L:=ty) (c:=47) (sub++(pps ps++X)) (fun x hx=>by
  have:=nM x (mg t1 hx)
  simp[this.2.2.1]) (by decide)
 obtain⟨w3,w4⟩:=anX (v:=sub) (fun x hx=>(nM x (mg s1 hx)).2.2.2.1) (af7 ps hX)
 unfold mime
 rw[hT,e,w1,w2]
 simp only[]
 rw[w3,w4,(IB s1).tr,t1,s1,t2,s2,if_pos (show(true&&true)=true from rfl),aa8 ps [] X hX (fun k _ hk=>D6 h3 k hk)]
 rfl
theorem aiR {ty sub:List UInt8} {ps:PL} (ht:dP ty=true) (hs:dP sub=true):ru (dS ty sub ps)=dS ty sub ps:=by
 have hE:Ends (dS ty sub ps):=by
  unfold dS ess
  refine aag ps _ ?_
  have:=Ends.app (ty++[47]) (IB hs)
  simpa using this
 rw[xw,hE.tr]
 unfold dS ess
 cases ty with
 |nil=>exact absurd rfl (En ht)
 |cons c r=>exact YB _ c (nM c (mg ht (by simp))).1
theorem GR {ty sub:List UInt8} {ps:PL} (h:fD ty sub ps=true):mime (dS ty sub ps)=some ⟨ty,sub,ps⟩:=by
 have h':=h
 unfold fD at h'
 simp only[Bool.and_eq_true]at h'
 have:=aaO (X:=[]) h (.inl rfl) (by rw[List.append_nil];exact aiR (nK h'.1).1 (nK h'.2.1).1)
 rw[List.append_nil]at this
 exact this
theorem amJ {ps:PL} {q:List UInt8×List UInt8} {k:Nat} (hk:k<ps.length):yU (ps++[q]) k=yU ps k:=by
 unfold yU
 rw[List.getElem?_append_left hk,List.take_append_of_le_length (by omega)]
theorem aew {ps:PL} {q:List UInt8×List UInt8} (h:G7 ps=true) (h1:RG q.1=true) (h2:GH q.1 ps=false) (h3:CV.quotable q.2=true):G7 (ps++[q])=true:=by
 refine List.all_eq_true.2 fun k hk=>?_
 have hk':k<ps.length+1:=by simpa using hk
 by_cases hlt:k<ps.length
 ·rw[amJ hlt]
  exact D6 h k hlt
 obtain rfl:k=ps.length:=by omega
 unfold yU
 rw[List.getElem?_append_right (Nat.le_refl _),Nat.sub_self,List.getElem?_cons_zero]
 simp only[List.take_left,h1,h2,h3]
 rfl
theorem am3 {t:List UInt8} {p:List UInt8×List UInt8} (h:(pm t).1=some p):RG p.1=true∧CV.quotable p.2=true:=by
 unfold pm at h
 split at h
 ·cases h
 split at h
 ·cases h
 simp only[]at h
 split at h
 ·rename_i hc
  injection h with h
  subst h
  simp only[Bool.and_eq_true]at hc
  exact⟨LD hc.1.2,hc.2⟩
 cases h
theorem VP:∀(n:Nat) (r:List UInt8) (acc:PL),G7 acc=true→G7 (prF n r acc)=true
 |0,_,_,h=>h
 |_+1,[],_,h=>h
 | n + 1, _ :: t, acc, h => by
  rw[prF]
  refine VP n _ _ ?_
  unfold Kt
  split
  ·exact h
  ·rename_i p hp
   split
   ·exact h
   ·rename_i hh
    obtain⟨h1,h2⟩:=am3 hp
    exact aew h h1 (by simpa using hh) h2
theorem adZ {s:List UInt8} {m:MT} (h:mime s=some m):fD m.ty m.sub m.ps=true:=by
 unfold mime at h
 split at h
 ·cases h
 split at h
 ·rename_i hc
  injection h with h
  subst h
  simp only[Bool.and_eq_true]at hc
  unfold fD
  simp only[Bool.and_eq_true]
  exact⟨LD hc.1,LD hc.2,VP _ _ _ rfl⟩
 cases h
end Go.Proofs.YtgamccijegollaaGreatDoor.sV
namespace Go.Proofs.YtgamccijegollaaGreatDoor.BZ
open Go.RowKit Base Dp
def num (c:UInt8):Int:=
 if 65≤c.toNat∧c.toNat≤90 then(c.toNat:Int) - 65
 else if 97≤c.toNat∧c.toNat≤122 then(c.toNat:Int) - 97+26
 else if 48≤c.toNat∧c.toNat≤57 then(c.toNat:Int) - 48+52
 else if c.toNat=43 then 62 else if c.toNat=47 then 63 else -1
theorem bf (c:UInt8) (w:World):Calls Tryz.prog 175 #[.int .u8 (c.toNat:Int)] w fun e w'=>e=.returned (.int .i64 (num c))∧w=w':=by
 have hc0:(c.toNat:Int)<256:=by have:=c.toNat_lt;omega
 by_cases e1:(c.toNat:Int)=43
 ·go_enter Tryz.func175,Tryz.ntmps175
  go_wp2
  go_ret
  exact⟨iw (by unfold num;(repeat' split)<;>omega),rfl⟩
 by_cases e2:(c.toNat:Int)=47
 ·go_enter Tryz.func175,Tryz.ntmps175
  go_wp2
  go_ret
  exact⟨iw (by unfold num;(repeat' split)<;>omega),rfl⟩
 go_enter Tryz.func175,Tryz.ntmps175
 go_wp2
 all_goals
  go_ret
  exact⟨iw (by unfold num;(repeat' split)<;>omega),rfl⟩
theorem qE (c:UInt8): -1≤num c∧num c<64:=by
 unfold num
 (repeat' split)<;>omega
def blank (c:UInt8):Bool:=c.toNat==9||c.toNat==10||c.toNat==12||c.toNat==13||c.toNat==32
def Ho (L:List UInt8):List UInt8:=L.filter fun c=> !blank c
theorem JJ (L:List UInt8) (c:UInt8):Ho (L++[c])=if blank c then Ho L else Ho L++[c]:=by
 unfold Ho
 rw[List.filter_append]
 cases h:blank c<;>simp[h]
theorem JI (L:List UInt8):(Ho L).length≤L.length:=List.length_filter_le _ _
theorem abX (s:ByteArray) (w:World) (hm:s.size≤1073741824):
  Calls Tryz.prog 174 #[.string s] w fun e w'=>∃v,e=.returned v∧w'.ownsRow w.heap.size 5 1 v (Ho s.data.toList).length (ah (Ho s.data.toList))∧Below w.heap.size w w':=by
 have hl:s.data.toList.length=s.size:=Array.length_toList
 have HL:=hid hl
 clear hl
 obtain⟨i0,hi,hz0,hz1,hz2⟩:=info_parts iR
 go_enter Tryz.func174,Tryz.ntmps174
 go_wp2_with (at_make;refine wpList_make_own _ rfl _ _ 45 rfl w.heap.size 5 i0 (.int .u8 0) 1 Tryz.underlying45 hi hz0 hz1 .i64 .i64 _ s.size rfl rfl rfl (by rw[hz2];omega) (by unfold maxLen;omega) (Nat.le_refl _) ?_)
 intro w1 hown1 hg1
 have gW:Below w.heap.size w w1:=(Below.refl _ _).grown hg1 (Nat.le_refl _) (by intro k h;cases h)
 clear hg1
 go_wp2
 go_loopw [3,4] (fun v vk wr=>∃(j:Nat),j≤s.size∧vk=.int .i64 j∧wr.ownsRow w.heap.size 5 1 v (Ho (s.data.toList.take j)).length (ah (Ho (s.data.toList.take j)))∧Below w.heap.size w wr) (fun _ vk _=>s.size - (intOf vk).toNat)
 case atStart=>exact⟨0,Nat.zero_le _,rfl,hown1,gW⟩
 case round=>
  clear hown1 gW
  obtain⟨j,hj,rfl,hown,hbel⟩:=hrel
  by_cases hlt:j<s.size
  ·obtain ⟨c,hc⟩:∃c,s[j]=c:=⟨_,rfl⟩
   have HS:Hid (s.data.toList.take (j+1)=s.data.toList.take j++[c]):=by
    rw[←hc,List.take_succ_eq_append_getElem (by rw[HL.out];exact hlt)]
    rfl
   have hle:=JI (s.data.toList.take j)
   have hle2:(s.data.toList.take j).length≤j:=List.length_take_le _ _
   obtain⟨m,hmm⟩:∃m,m=(Ho (s.data.toList.take j)).length:=⟨_,rfl⟩
   rw[←hmm]at hle hown
   have HM:=hid hmm
   clear hmm
   have hc0:(c.toNat:Int)<256:=by have:=c.toNat_lt;omega
   by_cases hb:(c.toNat:Int)=9∨(c.toNat:Int)=10∨(c.toNat:Int)=12∨(c.toNat:Int)=13∨(c.toNat:Int)=32
   ·have HB:Hid (blank c=true):=by
     show blank c=true
     unfold blank
     rcases hb with h|h|h|h|h<;>(have h':c.toNat=_:=Int.ofNat_inj.1 h)<;>simp[h']
    have HE:Hid (Ho (s.data.toList.take (j+1))=Ho (s.data.toList.take j)):=by rw[HS.out,JJ,if_pos HB.out];exact rfl
    clear HB
    rcases hb with h|h|h|h|h
    all_goals
     go_wp2
     go_roundw
     case rel=>exact⟨j+1,by omega,by go_num,by rw[HE.out,←HM.out];exact hown,hbel⟩
     case measure=>simp[intOf];omega
   ·have b1:¬(c.toNat:Int)=9:=fun h=>hb (by omega)
    have b2:¬(c.toNat:Int)=10:=fun h=>hb (by omega)
    have b3:¬(c.toNat:Int)=12:=fun h=>hb (by omega)
    have b4:¬(c.toNat:Int)=13:=fun h=>hb (by omega)
    have b5:¬(c.toNat:Int)=32:=fun h=>hb (by omega)
    have HB:Hid (blank c=false):=by
     show blank c=false
     unfold blank
     simp
     omega
    have HE:Hid (Ho (s.data.toList.take (j+1))=Ho (s.data.toList.take j)++[c]):=by rw[HS.out,JJ,if_neg (by rw[HB.out];decide)];exact rfl
    clear HB hb
    go_wp2_with (at_builtin;refine aQ rfl _ _ 45 rfl w.heap.size 5 i0 (.int .u8 0) 1 Tryz.underlying45 hi hz0 hz1 hz2 rfl _ m _ rfl hown hbel hbel.size [.int .u8 (c.toNat:Int)] 1 rfl rfl (by intro u hu;simp at hu;subst hu;rfl) (by unfold maxLen;omega) (by omega) ?_)
    intro v' w2 hown2 dZ
    clear hown hbel
    go_wp2
    go_roundw
    case rel=>exact⟨j+1,by omega,by go_num,by
      rw[HE.out,List.length_append,aS,←HM.out]
      exact hown2,dZ⟩
    case measure=>simp[intOf];omega
  ·obtain rfl:j=s.size:=by omega
   have HE:Hid (s.data.toList.take s.size=s.data.toList):=by
    rw[←HL.out];exact List.take_length
   rw[HE.out]at hown
   go_wp2
   go_ret
   exact⟨_,rfl,hown,hbel⟩
def strip (L:List UInt8):List UInt8:=if L.getLast?=some 61 then L.dropLast else L
def oH (L:List UInt8):List UInt8:=if L.length%4=0 then strip (strip L)else L
theorem aeD (L:List UInt8):∃m,m≤L.length∧strip L=L.take m:=by
 unfold strip
 split
 ·exact⟨L.length - 1,by omega,List.dropLast_eq_take⟩
 exact⟨L.length,Nat.le_refl _,List.take_length.symm⟩
end Go.Proofs.YtgamccijegollaaGreatDoor.BZ
namespace Go.Proofs.YtgamccijegollaaGreatDoor.B64U
open Go.RowKit Base Dp BZ
theorem strip_nil:strip []=[]:=rfl
theorem LW (L:List UInt8) (c:UInt8) (hc:L.getLast?=some c) (e:c=61):strip L=L.take (L.length - 1):=by
 unfold strip
 rw[if_pos (by rw[hc,e]),List.dropLast_eq_take]
theorem JD (L:List UInt8) (c:UInt8) (hc:L.getLast?=some c) (e:c≠61):strip L=L:=by
 unfold strip
 rw[if_neg (by rw[hc];simpa using e)]
theorem aiT (A:Option Addr) (n cap:Nat) (L:List UInt8) (w:World) (h:aY w A n (ah L)) (hc:n≤cap) (hm:n≤1073741824):
  Calls Tryz.prog 173 #[.slice A n cap] w fun e w'=>e=.returned (.slice A (oH L).length cap)∧aY w A (oH L).length (ah (oH L))∧Below w.heap.size w w':=by
 have hl:L.length=n:=by rw[←aI];exact h.1
 have HL:=hid hl
 have HH:=hid h
 clear h hl
 by_cases h4:n%4=0
 ·have HU:Hid (oH L=strip (strip L)):=by
   show oH L=_
   unfold oH
   rw[if_pos (by rw[HL.out];exact h4)]
  have h4':((n:Int).tmod 4)=0:=by rw[Int.tmod_eq_emod_of_nonneg (by omega)];omega
  have h4'':(n:Int)%4=0:=by omega
  go_enter Tryz.func173,Tryz.ntmps173
  go_wp2
  go_loopw [0,8] (fun v vk wr=>∃(k m:Nat) (M:List UInt8),k≤2∧vk=.int .i64 k∧v=.slice A m cap∧m≤n∧Hid (aY w A m (ah M))∧Hid ((k=0∧M=L)∨(k=1∧M=strip L)∨(k=2∧M=strip (strip L)))∧Below w.heap.size w wr) (fun _ vk _=>2 - (intOf vk).toNat)
  case atStart=>exact⟨0,n,L,by omega,rfl,rfl,Nat.le_refl _,HH,Or.inl ⟨rfl,rfl⟩,Below.refl _ _⟩
  case round=>
   obtain⟨k,m,M,hk,rfl,rfl,hmn,HM,HC,hbel⟩:=hrel
   have hml:M.length=m:=by rw[←aI];exact HM.out.1
   by_cases hlt:k<2
   ·by_cases hm0:0<m
    ·obtain ⟨b,off,rfl,hb,_⟩:=(HM.out).spot hm0
     obtain⟨c,hx⟩:∃c,c=M[m - 1]'(by omega):=⟨_,rfl⟩
     have hcell:wr.cell? ⟨b,off+(m - 1),none⟩=some (.int .u8 (c.toNat:Int)):=by
      rw[hx,←HM.out.byte (m - 1) (by omega)]
      exact hbel.cell (p:=⟨b,off+(m - 1),none⟩) hb
     have hidx:((m:Int) - 1)=((m - 1:Nat):Int):=by omega
     have hidx2:((m:Int) - 1).toNat=m - 1:=by omega
     have HX:Hid (M.getLast?=some c):=by
      show M.getLast?=some c
      rw[hx,List.getLast?_eq_getElem?,List.getElem?_eq_getElem (by omega)]
      congr 2
      omega
     have HML:=hid hml
     clear hx hml
     by_cases h61:(c.toNat:Int)=61
     ·have HS:Hid (strip M=M.take (m - 1)):=by
       have:=LW M c HX.out (UInt8.toNat_inj.1 (by simpa using Int.ofNat_inj.1 h61))
       rw[HML.out]at this
       exact this
      go_wp2
      go_roundw
      case rel=>exact⟨k+1,m - 1,M.take (m - 1),by omega,by go_num,by simp<;>omega,by omega,by rw[lC];exact HM.out.upto (m - 1) (by omega),by
       show _∨_
       rw[←HS.out]
       rcases HC.out with⟨rfl,rfl⟩|⟨rfl,rfl⟩|⟨rfl,rfl⟩
       ·exact Or.inr (Or.inl ⟨rfl,rfl⟩)
       ·exact Or.inr (Or.inr ⟨rfl,rfl⟩)
       ·omega,hbel⟩
      case measure=>simp[intOf];omega
     ·have HS:Hid (strip M=M):=JD M c HX.out (fun e=>h61 (by rw[e];rfl))
      go_wp2
      go_roundw
      case rel=>exact⟨k+1,m,M,by omega,by go_num,rfl,by omega,HM,by
       show _∨_
       rcases HC.out with⟨rfl,rfl⟩|⟨rfl,rfl⟩|⟨rfl,rfl⟩
       ·exact Or.inr (Or.inl ⟨rfl,HS.out.symm⟩)
       ·refine Or.inr (Or.inr ⟨rfl,?_⟩)
        rw[HS.out]
       ·omega,hbel⟩
      case measure=>simp[intOf];omega
    ·obtain rfl:m=0:=by omega
     have HS:Hid (strip M=M):=by
      rw[List.eq_nil_of_length_eq_zero hml]
      exact strip_nil
     clear hml
     go_wp2
     go_roundw
     case rel=>exact⟨k+1,0,M,by omega,by go_num,rfl,by omega,HM,by
      show _∨_
      rcases HC.out with⟨rfl,rfl⟩|⟨rfl,rfl⟩|⟨rfl,rfl⟩
      ·exact Or.inr (Or.inl ⟨rfl,HS.out.symm⟩)
      ·refine Or.inr (Or.inr ⟨rfl,?_⟩)
       rw[HS.out]
      ·omega,hbel⟩
     case measure=>simp[intOf];omega
   ·obtain rfl:k=2:=by omega
    have HE:Hid (M=oH L):=by
     rw[HU.out]
     rcases HC.out with⟨h,_⟩|⟨h,_⟩|⟨_,h⟩
     ·omega
     ·omega
     ·exact h
    have HML:Hid ((oH L).length=m):=by rw[←HE.out];exact hml
    clear hml
    go_wp2
    go_ret
    rw[HML.out,←HE.out]
    exact⟨rfl,HM.out,hbel⟩
 ·have HU:Hid (oH L=L):=by
   show oH L=_
   unfold oH
   rw[if_neg (by rw[HL.out];exact h4)]
  have h4':¬((n:Int).tmod 4)=0:=by rw[Int.tmod_eq_emod_of_nonneg (by omega)];omega
  have h4'':¬(n:Int)%4=0:=by omega
  go_enter Tryz.func173,Tryz.ntmps173
  go_wp2
  go_ret
  rw[HU.out,HL.out]
  exact⟨rfl,HH.out,Below.refl _ _⟩
end Go.Proofs.YtgamccijegollaaGreatDoor.B64U
namespace Go.Proofs.YtgamccijegollaaGreatDoor.Nw
open Go.RowKit Base Dp BZ B64U
def feed (s:List UInt8×Nat×Nat) (n:Nat):List UInt8×Nat×Nat:=
 if s.2.2=0 then(s.1,s.2.1*64+n,6)else(s.1++[UInt8.ofNat ((s.2.1*64+n) / 2^(s.2.2 - 2))],(s.2.1*64+n)%2^(s.2.2 - 2),s.2.2 - 2)
def runs (T:List UInt8):List UInt8×Nat×Nat:=T.foldl (fun s c=>feed s (num c).toNat) ([],0,0)
theorem aiD (T:List UInt8) (c:UInt8):runs (T++[c])=feed (runs T) (num c).toNat:=by simp[runs]
def Good (s:List UInt8×Nat×Nat):Prop:=s.2.2=0∧s.2.1=0∨s.2.2=6∧s.2.1<64∨s.2.2=4∧s.2.1<16∨s.2.2=2∧s.2.1<4
theorem ahF (s:List UInt8×Nat×Nat) (n:Nat) (h:Good s) (hn:n<64):Good (feed s n):=by
 obtain⟨a,b,d⟩:=s
 unfold Good at h⊢
 unfold feed
 simp only at h⊢
 rcases h with⟨rfl,rfl⟩|⟨rfl,h⟩|⟨rfl,h⟩|⟨rfl,h⟩<;>simp<;>omega
theorem alq (s:List UInt8×Nat×Nat) (n:Nat):(feed s n).1.length≤s.1.length+1:=by
 unfold feed
 split<;>simp
theorem ahA (T:List UInt8):∀s,Good s→(∀c ∈ T,0≤num c)→Good (T.foldl (fun s c=>feed s (num c).toNat) s)∧(T.foldl (fun s c=>feed s (num c).toNat) s).1.length≤s.1.length+T.length:=by
 induction T with
 |nil=>intro s h _;exact⟨h,Nat.le_refl _⟩
 |cons c T ih=>
  intro s h hz
  have hc:=qE c
  have h1:=ih _ (ahF s (num c).toNat h (by omega)) (fun x hx=>hz x (by simp[hx]))
  have h2:=alq s (num c).toNat
  refine⟨h1.1,?_⟩
  have h3:=h1.2
  simp only[List.foldl_cons,List.length_cons]at h3⊢
  omega
theorem aiC (T:List UInt8) (h:∀c ∈ T,0≤num c):Good (runs T)∧(runs T).1.length≤T.length:=by
 have:=ahA T ([],0,0) (Or.inl ⟨rfl,rfl⟩) h
 exact⟨this.1,by simpa[runs]using this.2⟩
theorem or6 (b z:Nat) (hb:b<64) (hz:z<64):bits .or .i64 ((b:Int)*64) (z:Int)=((b*64+z:Nat):Int):=by
 have H:∀(b:Fin 64) (z:Fin 64),bits .or .i64 ((b.val:Int)*64) (z.val:Int)=((b.val*64+z.val:Nat):Int):=by decide+kernel
 exact H ⟨b,hb⟩ ⟨z,hz⟩
theorem and15' (x:Nat) (h:x<4096):bits .and .i64 (x:Int) 15=((x%16:Nat):Int):=by
 have H:∀(a b:Fin 64),bits .and .i64 ((a.val*64+b.val:Nat):Int) 15=(((a.val*64+b.val)%16:Nat):Int):=by decide+kernel
 have:=H ⟨x / 64,by omega⟩ ⟨x%64,by omega⟩
 simp only at this
 rwa[show x / 64*64+x%64=x by omega]at this
theorem and3' (x:Nat) (h:x<1024):bits .and .i64 (x:Int) 3=((x%4:Nat):Int):=by
 have H:∀(a:Fin 16) (b:Fin 64),bits .and .i64 ((a.val*64+b.val:Nat):Int) 3=(((a.val*64+b.val)%4:Nat):Int):=by decide+kernel
 have:=H ⟨x / 64,by omega⟩ ⟨x%64,by omega⟩
 simp only at this
 rwa[show x / 64*64+x%64=x by omega]at this
theorem and0' (x:Nat) (h:x<256):bits .and .i64 (x:Int) 0=0:=by
 have H:∀(x:Fin 256),bits .and .i64 (x.val:Int) 0=0:=by decide+kernel
 exact H ⟨x,h⟩
theorem rX (x:Nat) (h:x<256):((UInt8.ofNat x).toNat:Int)=(x:Int):=by
 simp
 omega
def txt (L:List UInt8):List UInt8:=oH (Ho L)
def Hr (L:List UInt8):Bool:=decide ((txt L).length%4≠1∧∀c ∈ txt L,0≤num c)
def dB (L:List UInt8):List UInt8:=if Hr L=true then(runs (txt L)).1 else[]
theorem V9 (L:List UInt8):(strip L).length≤L.length:=by
 obtain⟨m,_,h⟩:=aeD L
 rw[h,List.length_take]
 omega
theorem OD (L:List UInt8):(txt L).length≤L.length:=by
 have:=JI L
 have h1:=V9 (Ho L)
 have h2:=V9 (strip (Ho L))
 unfold txt oH
 split<;>omega
theorem dB_len (L:List UInt8):(dB L).length≤L.length:=by
 unfold dB
 split
 ·rename_i h
  have:=of_decide_eq_true h
  have h2:=(aiC (txt L) this.2).2
  have:=OD L
  omega
 simp
theorem decode_any (s : ByteArray) (w : World) (hm : s.size ≤ 1073741824) :
  Calls Tryz.prog 77 #[.string s] w fun e w'=>∃v,e=.returned (.tuple #[v,.bool (Hr s.data.toList)])∧w'.ownsRow w.heap.size 5 1 v (dB s.data.toList).length (ah (dB s.data.toList))∧Below w.heap.size w w':=by
 have hl:s.data.toList.length=s.size:=Array.length_toList
 obtain⟨i0,hi,hz0,hz1,hz2⟩:=info_parts iR
 obtain⟨L,hL⟩:∃L,L=s.data.toList:=⟨_,rfl⟩
 have Ci:=hid hL
 have hul:(Ho s.data.toList).length≤1073741824:=by have:=JI s.data.toList;omega
 have htl:(txt L).length≤1073741824:=by have:=OD L;rw[hL]at this⊢;omega
 rw[←hL]at hl hul⊢
 clear hL hl
 have HUL:=hid hul
 clear hul
 go_enter Tryz.func77,Tryz.ntmps77
 go_wp2_with fail
 refine(abX s _ hm).mono ?_
 rintro e w1 ⟨v1,rfl,hown1,hb1⟩
 rw[←Ci.out]at hown1
 obtain⟨A1,c1,rfl,hc1,hm1,hr1⟩:=aJ hown1
 have HR1:=hid hr1
 clear hown1 hr1
 go_wp2_with fail
 refine(aiT A1 _ c1 (Ho L) _ HR1.out hc1 HUL.out).mono ?_
 rintro e w2 ⟨rfl,hr2,hb2⟩
 have hr2':aY w1 A1 (txt L).length (ah (txt L)):=hr2
 have HR2:=hid (hr2'.below hb2)
 clear hr2 hr2' HR1
 rw[show oH (Ho L)=txt L from rfl]
 obtain⟨T,hT⟩:∃T,T=txt L:=⟨_,rfl⟩
 have HT:=hid hT
 rw[←hT]at HR2 htl⊢
 clear hT
 obtain⟨m,hm2⟩:∃m,m=T.length:=⟨_,rfl⟩
 have HM:=hid hm2
 rw[←hm2]at HR2 htl⊢
 clear hm2
 have dZ:Below w.heap.size w w2:=bel hb1 hb2
 by_cases h4:m%4=1
 ·have HN:Hid (Hr L=false):=by
   show Hr L=false
   unfold Hr
   rw[←HT.out,←HM.out]
   simp[h4]
  have HB:Hid (dB L=[]):=by
   show dB L=[]
   unfold dB
   rw[HN.out]
   rfl
  have h4':((m:Int).tmod 4)=1:=by rw[Int.tmod_eq_emod_of_nonneg (by omega)];omega
  have h4'':(m:Int)%4=1:=by omega
  go_wp2
  go_ret2
  exact⟨_,vS rfl (iO HN.out.symm),by rw[HB.out];exact World.ownsRow_nil _ _ _ _,dZ⟩
 ·have h4':¬((m:Int).tmod 4)=1:=by rw[Int.tmod_eq_emod_of_nonneg (by omega)];omega
  have h4'':¬(m:Int)%4=1:=by omega
  have hq:((m:Int).tdiv 4)=((m / 4:Nat):Int):=by rw[Int.tdiv_eq_ediv_of_nonneg (by omega)];omega
  have hq2:(m:Int) / 4=((m / 4:Nat):Int):=by omega
  have hq3:m / 4≤268435456:=by omega
  obtain⟨q,hqq⟩:∃q,q=m / 4:=⟨_,rfl⟩
  rw[←hqq]at hq hq2 hq3
  clear hqq
  go_wp2_with (at_make;refine wpList_make_own _ rfl _ _ 45 rfl w2.heap.size 5 i0 (.int .u8 0) 1 Tryz.underlying45 hi hz0 hz1 .i64 .i64 _ (q*3+2) rfl rfl rfl (by rw[hz2];omega) (by unfold maxLen;omega) (Nat.le_refl _) ?_)
  intro w3 hown3 hg3
  have dG:Below w2.heap.size w2 w3:=(Below.refl _ _).grown hg3 (Nat.le_refl _) (by intro k h;cases h)
  clear hg3 hq hq2 hq3 h4' h4''
  go_wp2
  go_loopw [5,6,7,9,10,26] (fun v vb vh _ _ vk wr=>∃(j b d:Nat) (X:List UInt8),j≤m∧vk=.int .i64 j∧vb=.int .i64 b∧vh=.int .i64 d∧(d=0∧b=0∨d=6∧b<64∨d=4∧b<16∨d=2∧b<4)∧X.length≤j∧Hid (runs (T.take j)=(X,b,d))∧Hid (∀c ∈ T.take j,0≤num c)∧wr.ownsRow w2.heap.size 5 1 v X.length (ah X)∧Below w2.heap.size w2 wr) (fun _ _ _ _ _ vk _=>m - (intOf vk).toNat)
  case atStart=>exact⟨0,0,0,[],Nat.zero_le _,rfl,rfl,rfl,Or.inl ⟨rfl,rfl⟩,Nat.le_refl _,rfl,(fun c hc=>by simp at hc),hown3,dG⟩
  case round=>
   clear hown3 dG
   obtain⟨j,b,d,X,hj,rfl,rfl,rfl,hd,hX,HRU,HZ,hown,hbel⟩:=hrel
   by_cases hlt:j<m
   ·obtain ⟨g,off,rfl,hg,_⟩:=(HR2.out).spot (by omega)
    obtain⟨c,hx⟩:∃c,c=T[j]'(by rw[←HM.out];exact hlt):=⟨_,rfl⟩
    have hcell:wr.cell? ⟨g,off+j,none⟩=some (.int .u8 (c.toNat:Int)):=by
     rw[hx,←HR2.out.byte j (by rw[←HM.out];exact hlt)]
     exact hbel.cell (p:=⟨g,off+j,none⟩) hg
    have HS:Hid (T.take (j+1)=T.take j++[c]):=by
     rw[hx]
     exact List.take_succ_eq_append_getElem (by rw[←HM.out];exact hlt)
    have Y7:Hid (c ∈ T):=by rw[hx];exact List.getElem_mem _
    clear hx
    have hrg:=qE c
    by_cases hn:num c<0
    ·have hn':num c= -1:=by omega
     have HNN:=hid hn'
     have HN:Hid (Hr L=false):=by
      show Hr L=false
      unfold Hr
      rw[decide_eq_false_iff_not]
      rintro⟨_,h⟩
      have:=h c (by rw[←HT.out];exact Y7.out)
      omega
     have HB:Hid (dB L=[]):=by
      show dB L=[]
      unfold dB
      rw[HN.out]
      rfl
     clear hn hn' hrg
     go_wp2_with fail
     refine(bf c _).mono ?_
     rintro e w4 ⟨rfl,rfl⟩
     rw[HNN.out]
     go_wp2
     go_ret2
     exact⟨_,vS rfl (iO HN.out.symm),by rw[HB.out];exact World.ownsRow_nil _ _ _ _,bel dZ hbel⟩
    ·obtain ⟨z,hz⟩:∃z:Nat,num c=(z:Int):=⟨(num c).toNat,by omega⟩
     have ama:z<64:=by omega
     have HNZ:=hid hz
     have HZ2:Hid (∀x ∈ T.take (j+1),0≤num x):=by
      intro x hx
      rw[HS.out,List.mem_append]at hx
      rcases hx with hx|hx
      ·exact HZ.out x hx
      ·simp at hx
       subst hx
       omega
     have HF:Hid (runs (T.take (j+1))=feed (X,b,d) z):=by
      show runs _=_
      rw[HS.out,aiD,HRU.out,hz]
      rfl
     clear hn hrg hz
     have hor:=or6 b z (by omega) ama
     obtain⟨x,hxx⟩:∃x,x=b*64+z:=⟨_,rfl⟩
     rw[←hxx]at hor
     have HXX:=hid hxx
     have hx1:x<4096:=by omega
     have hxd:(d=4→x<1024)∧(d=2→x<256):=by omega
     clear hxx
     go_wp2_with fail
     refine(bf c _).mono ?_
     rintro e w4 ⟨rfl,rfl⟩
     rw[HNZ.out]
     rcases hd with⟨rfl,rfl⟩|⟨rfl,hb⟩|⟨rfl,hb⟩|⟨rfl,hb⟩
     ·have hor0:bits .or .i64 0 (z:Int)=(z:Int):=by
       have:=or6 0 z (by omega) ama
       simpa using this
      clear hor
      go_wp2
      go_roundw
      case rel=>exact⟨j+1,z,6,X,by omega,by go_num,by first|rfl|rw[hor0],rfl,Or.inr (Or.inl ⟨rfl,ama⟩),by omega,by
       show runs _=_
       rw[HF.out]
       simp[feed],HZ2,hown,hbel⟩
      case measure=>simp[intOf];omega
     ·have hand:=and15' x hx1
      have hb8:x<4096:=by omega
      go_wp2_with (at_builtin;refine aQ rfl _ _ 45 rfl w2.heap.size 5 i0 (.int .u8 0) 1 Tryz.underlying45 hi hz0 hz1 hz2 rfl _ X.length (ah X) rfl hown hbel hbel.size [.int .u8 ((x:Int) / 16)] 1 rfl rfl (by intro u hu;simp at hu;subst hu;rfl) (by unfold maxLen;omega) (by omega) ?_)
      intro v' w5 hown5 mJ
      clear hown hbel
      go_wp2
      go_roundw
      case rel=>exact⟨j+1,x%16,4,X++[UInt8.ofNat (x / 16)],by omega,by go_num,by first|rfl|go_num|(rw[hand]),rfl,Or.inr (Or.inr (Or.inl ⟨rfl,by omega⟩)),by simp;omega,by
       show runs _=_
       rw[HF.out]
       simp[feed,←HXX.out],HZ2,by
       have e:=rX (x / 16) (by omega)
       rw[aS,List.length_append]
       simp only[ah,List.map_cons,List.map_nil,e]
       exact hown5,mJ⟩
      case measure=>simp[intOf];omega
     ·have hand:=and3' x (hxd.1 rfl)
      have hb8:x<1024:=by omega
      go_wp2_with (at_builtin;refine aQ rfl _ _ 45 rfl w2.heap.size 5 i0 (.int .u8 0) 1 Tryz.underlying45 hi hz0 hz1 hz2 rfl _ X.length (ah X) rfl hown hbel hbel.size [.int .u8 ((x:Int) / 4)] 1 rfl rfl (by intro u hu;simp at hu;subst hu;rfl) (by unfold maxLen;omega) (by omega) ?_)
      intro v' w5 hown5 mJ
      clear hown hbel
      go_wp2
      go_roundw
      case rel=>exact⟨j+1,x%4,2,X++[UInt8.ofNat (x / 4)],by omega,by go_num,by first|rfl|go_num|(rw[hand]),rfl,Or.inr (Or.inr (Or.inr ⟨rfl,by omega⟩)),by simp;omega,by
       show runs _=_
       rw[HF.out]
       simp[feed,←HXX.out],HZ2,by
       have e:=rX (x / 4) (by omega)
       rw[aS,List.length_append]
       simp only[ah,List.map_cons,List.map_nil,e]
       exact hown5,mJ⟩
      case measure=>simp[intOf];omega
     ·have hand:=and0' x (hxd.2 rfl)
      have hb8:x<256:=hxd.2 rfl
      go_wp2_with (at_builtin;refine aQ rfl _ _ 45 rfl w2.heap.size 5 i0 (.int .u8 0) 1 Tryz.underlying45 hi hz0 hz1 hz2 rfl _ X.length (ah X) rfl hown hbel hbel.size [.int .u8 ((x:Int))] 1 rfl rfl (by intro u hu;simp at hu;subst hu;rfl) (by unfold maxLen;omega) (by omega) ?_)
      intro v' w5 hown5 mJ
      clear hown hbel
      go_wp2
      go_roundw
      case rel=>exact⟨j+1,0,0,X++[UInt8.ofNat (x)],by omega,by go_num,by first|rfl|go_num|(rw[hand]),rfl,Or.inl ⟨rfl,rfl⟩,by simp;omega,by
       show runs _=_
       rw[HF.out]
       simp[feed,←HXX.out];omega,HZ2,by
       have e:=rX (x) (by omega)
       rw[aS,List.length_append]
       simp only[ah,List.map_cons,List.map_nil,e]
       exact hown5,mJ⟩
      case measure=>simp[intOf];omega
   ·obtain rfl:j=m:=by omega
    have HE:Hid (T.take j=T):=by rw[HM.out];exact List.take_length
    rw[HE.out]at HRU HZ
    have HN:Hid (Hr L=true):=by
     show Hr L=true
     unfold Hr
     rw[←HT.out,decide_eq_true_iff]
     exact⟨by rw[←HM.out];exact h4,HZ.out⟩
    have HB:Hid (dB L=X):=by
     show dB L=X
     unfold dB
     rw[HN.out,if_pos rfl,←HT.out,HRU.out]
    go_wp2
    go_ret2
    exact⟨_,vS rfl (iO HN.out.symm),by rw[HB.out];exact ay hown dZ.size,bel dZ hbel⟩
end Go.Proofs.YtgamccijegollaaGreatDoor.Nw
namespace Go.Proofs.YtgamccijegollaaGreatDoor.JY
open Go.RowKit Base cO pU qg ajm
def ws:List UInt8:=[9,10,12,13,32]
def Gt:List UInt8:=[98,97,115,101,54,52]
def ahd (H:List UInt8):List UInt8:=Lib.trimRightS (H.take (H.length - 6)) [32]
def YT (H:List UInt8):Bool:=decide (6≤H.length)&&(decide (lower (H.drop (H.length - 6))=Gt)&&Lib.hasSuffix (ahd H) [59])
def Us (H:List UInt8):List UInt8:=Lib.trimSuffix (ahd H) [59]
def tp:List UInt8:=[116,101,120,116,47,112,108,97,105,110]
def fall:MT:=⟨[116,101,120,116],[112,108,97,105,110],[([99,104,97,114,115,101,116],[85,83,45,65,83,67,73,73])]⟩
def Es (H:List UInt8):List UInt8:=if Lib.hasPrefix H [59]=true then tp++H else H
def typ (H:List UInt8):MT:=(mime (Es H)).getD fall
def proc (L:List UInt8):Option (MT×List UInt8):=
 if (wS.fG 44 L).2.2=true then
  let H:=Lib.trimS (wS.fG 44 L).1 ws
  let B:=fU.dec (wS.fG 44 L).2.1
  if YT H=true then(if Nw.Hr B=true then some (typ (Us H),Nw.dB B)else none)else some (typ H,B)
 else none
theorem zT (b:UInt8):∀L:List UInt8,(wS.fG b L).1.length≤L.length∧(wS.fG b L).2.1.length≤L.length
 |[]=>by simp[wS.fG]
 |c::L=>by
  have h:=zT b L
  unfold wS.fG
  split
  ·simp
  ·simp only[List.length_cons]
   omega
theorem ae6 (H:List UInt8):(ahd H).length≤H.length:=by
 refine Nat.le_trans (agu [32] _) ?_
 rw[List.length_take]
 omega
theorem ajc (H:List UInt8):(Us H).length≤H.length:=by
 refine Nat.le_trans ?_ (ae6 H)
 unfold Us Lib.trimSuffix
 split
 ·simp
 exact Nat.le_refl _
theorem aiX (H:List UInt8):(Es H).length≤H.length+10:=by
 unfold Es
 split
 ·rw[List.length_append,show tp.length=10 from rfl];omega
 omega
def DATA:List UInt8:=[100,97,116,97]
def vX:List UInt8:=[100,97,116,97,58]
def err (au L:List UInt8):Int:=if au=DATA then(if (proc L).isSome=true then 0 else 2)else 1
def ans (au L:List UInt8):MT×List UInt8:=if au=DATA then(proc L).getD (oG.Oe,[])else(oG.Oe,[])
def DatR (M:MT) (B:List UInt8) (er:Int) (e:Ending) (w':World):Prop:=∃A c A2 c2,e=.returned (.tuple #[.agg #[.string (strOf M.ty),.string (strOf M.sub),.slice A M.ps.length c],.slice A2 B.length c2,.int .i64 er])∧M.ps.length≤c∧c≤maxLen∧rC.zH w' A M.ps.length (oG.nY M.ps)∧B.length≤c2∧c2≤maxLen∧aY w' A2 B.length (ah B)
end Go.Proofs.YtgamccijegollaaGreatDoor.JY
