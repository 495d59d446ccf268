/- Texts that belong together: mW, Kq, PthK, WS, yw, tN. -/
import Derived.Test.YtgamccijegollaaGreatDoorSOAAH
import Derived.Test.YtgamccijegollaaGreatDoorSOAAC
import Derived.Test.YtgamccijegollaaGreatDoorSOAAF
import Derived.Test.YtgamccijegollaaGreatDoorShelf
import Derived.Laws.RangeAny
import Derived.Laws.Runes
import Derived.Deep.LoopGhost
import Derived.WalkMore
import Derived.Test.YtgamccijegollaaGreatDoorSOAAD
import Derived.Test.YtgamccijegollaaGreatDoorSOAAA
import Derived.Lib.LastIndexByte
set_option linter.unusedSimpArgs false
set_option linter.unusedVariables false
set_option maxRecDepth 100000
set_option maxHeartbeats 64000000
namespace Go.Proofs.YtgamccijegollaaGreatDoor.mW
open Go.RowKit Base Dp wS
def cells (u:U) (p:Value):Array Value:=#[.string (strOf u.au),.string (strOf u.usr),.string (strOf u.MX),.string (strOf u.hst),.bool u.hh,.int .i64 u.port,.bool u.opq,.string (strOf u.txt),p,.bool u.hq,.bool u.hf,.string (strOf u.dY),.string (strOf u.fB)]
def UB (w:World) (g:Nat) (u:U) (p:Value):Prop:=w.heap[g]?=some (.cells (cells u p) 25 (0,0))
variable {w w':World} {g:Nat} {u:U} {p:Value}
theorem UB.lt (h:UB w g u p):g<w.heap.size:=(Array.getElem?_eq_some_iff.1 h).1
theorem UB.below (h:UB w g u p) (hb:Below w.heap.size w w'):UB w' g u p:=(hb.block g h.lt).trans h
theorem UB.facts (h:UB w g u p):w.cell? ⟨g,0,none⟩=some (.string (strOf u.au))∧w.cell? ⟨g,1,none⟩=some (.string (strOf u.usr))∧w.cell? ⟨g,2,none⟩=some (.string (strOf u.MX))∧w.cell? ⟨g,3,none⟩=some (.string (strOf u.hst))∧w.cell? ⟨g,4,none⟩=some (.bool u.hh)∧w.cell? ⟨g,5,none⟩=some (.int .i64 u.port)∧w.cell? ⟨g,6,none⟩=some (.bool u.opq)∧w.cell? ⟨g,7,none⟩=some (.string (strOf u.txt))∧w.cell? ⟨g,8,none⟩=some p∧w.cell? ⟨g,9,none⟩=some (.bool u.hq)∧w.cell? ⟨g,10,none⟩=some (.bool u.hf)∧w.cell? ⟨g,11,none⟩=some (.string (strOf u.dY))∧w.cell? ⟨g,12,none⟩=some (.string (strOf u.fB)):=
 ⟨cell_of_row w g 0 _ _ _ h,cell_of_row w g 1 _ _ _ h,cell_of_row w g 2 _ _ _ h,cell_of_row w g 3 _ _ _ h,cell_of_row w g 4 _ _ _ h,cell_of_row w g 5 _ _ _ h,cell_of_row w g 6 _ _ _ h,cell_of_row w g 7 _ _ _ h,cell_of_row w g 8 _ _ _ h,cell_of_row w g 9 _ _ _ h,cell_of_row w g 10 _ _ _ h,cell_of_row w g 11 _ _ _ h,cell_of_row w g 12 _ _ _ h⟩
theorem UB.thaw (h:UB w g u p):w.frozen? ⟨g,0,none⟩=false∧w.frozen? ⟨g,1,none⟩=false∧w.frozen? ⟨g,2,none⟩=false∧w.frozen? ⟨g,3,none⟩=false∧w.frozen? ⟨g,4,none⟩=false∧w.frozen? ⟨g,5,none⟩=false∧w.frozen? ⟨g,6,none⟩=false∧w.frozen? ⟨g,7,none⟩=false∧w.frozen? ⟨g,8,none⟩=false∧w.frozen? ⟨g,9,none⟩=false∧w.frozen? ⟨g,10,none⟩=false∧w.frozen? ⟨g,11,none⟩=false∧w.frozen? ⟨g,12,none⟩=false:=
 ⟨frozen_of_row w g 0 _ _ h,frozen_of_row w g 1 _ _ h,frozen_of_row w g 2 _ _ h,frozen_of_row w g 3 _ _ h,frozen_of_row w g 4 _ _ h,frozen_of_row w g 5 _ _ h,frozen_of_row w g 6 _ _ h,frozen_of_row w g 7 _ _ h,frozen_of_row w g 8 _ _ h,frozen_of_row w g 9 _ _ h,frozen_of_row w g 10 _ _ h,frozen_of_row w g 11 _ _ h,frozen_of_row w g 12 _ _ h⟩
theorem UB.usr (h:UB w g u p) (s:List UInt8):UB (w.setCell ⟨g,1,none⟩ (.string (strOf s))) g {u with usr:=s} p:=heap_setCell_same w g 1 _ _ _ h
theorem UB.MX (h:UB w g u p) (s:List UInt8):UB (w.setCell ⟨g,2,none⟩ (.string (strOf s))) g {u with MX:=s} p:=heap_setCell_same w g 2 _ _ _ h
theorem UB.hst (h:UB w g u p) (s:List UInt8):UB (w.setCell ⟨g,3,none⟩ (.string (strOf s))) g {u with hst:=s} p:=heap_setCell_same w g 3 _ _ _ h
theorem UB.port (h:UB w g u p) (z:Int):UB (w.setCell ⟨g,5,none⟩ (.int .i64 z)) g {u with port:=z} p:=heap_setCell_same w g 5 _ _ _ h
theorem UB.opq (h:UB w g u p) (b:Bool):UB (w.setCell ⟨g,6,none⟩ (.bool b)) g {u with opq:=b} p:=heap_setCell_same w g 6 _ _ _ h
theorem UB.txt (h:UB w g u p) (s:List UInt8):UB (w.setCell ⟨g,7,none⟩ (.string (strOf s))) g {u with txt:=s} p:=heap_setCell_same w g 7 _ _ _ h
theorem UB.path (h:UB w g u p) (q:Value):UB (w.setCell ⟨g,8,none⟩ q) g u q:=heap_setCell_same w g 8 _ _ _ h
theorem UB.hq (h:UB w g u p) (b:Bool):UB (w.setCell ⟨g,9,none⟩ (.bool b)) g {u with hq:=b} p:=heap_setCell_same w g 9 _ _ _ h
theorem UB.hf (h:UB w g u p) (b:Bool):UB (w.setCell ⟨g,10,none⟩ (.bool b)) g {u with hf:=b} p:=heap_setCell_same w g 10 _ _ _ h
theorem UB.dY (h:UB w g u p) (s:List UInt8):UB (w.setCell ⟨g,11,none⟩ (.string (strOf s))) g {u with dY:=s} p:=heap_setCell_same w g 11 _ _ _ h
theorem UB.fB (h:UB w g u p) (s:List UInt8):UB (w.setCell ⟨g,12,none⟩ (.string (strOf s))) g {u with fB:=s} p:=heap_setCell_same w g 12 _ _ _ h
theorem dR.below {u:U} {A:Option Addr} {n c:Nat} (h:dR w u A n c) (hb:Below w.heap.size w w'):dR w' u A n c:=⟨h.1.below hb,h.2⟩
theorem bW {B:Nat} {v:Value} {u:U} (h:w.ownsRow B 9 1 v u.aO.length (u.aO.map Value.string)):∃A c,v=.slice A u.aO.length c∧dR w u A u.aO.length c:=by
 obtain⟨A,c,e,h1,h2,h3⟩:=aJ h
 exact⟨A,c,e,h3,h1,h2⟩
theorem UB.load (h:UB w g u p):(loadVar 25 ⟨g,0,none⟩).run Tryz.prog w=.ok (.agg (cells u p)) w:=
 run_loadVar_row w g _ _ (cells u p) (0,0) _ h Tryz.underlying25 rfl (by kernel_rfl)
theorem UB.set (h:UB w g u p) {k i:Nat} (x:Value) (hk:g≠k):UB (w.setCell ⟨k,i,none⟩ x) g u p:=by
 unfold UB
 rw[heap_setCell_other _ _ _ _ hk]
 exact h
theorem res2 {fn:Func} {a b:Tmp} (h:fn.results=#[.cell a 25,.tmp b]) (hU:UB w g u p) (ok:Bool) (tmps:Array Value) (h2:tmps.getD a undef=.pointer (some ⟨g,0,none⟩)) (h3:tmps.getD b undef=.bool ok):
  (results fn tmps).run Tryz.prog w=.ok (.tuple #[.agg (cells u p),.bool ok]) w:=by
 have hp':tmps[a]?.getD undef=.pointer (some ⟨g,0,none⟩):=by simpa using h2
 have hq':tmps[b]?.getD undef=.bool ok:=by simpa using h3
 simp[results,h,hp',hq',asAddr,hU.load]
theorem res1 {fn:Func} {a:Tmp} (h:fn.results=#[.cell a 25]) (hU:UB w g u p) (tmps:Array Value) (h2:tmps.getD a undef=.pointer (some ⟨g,0,none⟩)):
  (results fn tmps).run Tryz.prog w=.ok (.agg (cells u p)) w:=
 results_cell_row h tmps w g _ _ _ _ h2 hU Tryz.underlying25 rfl (by kernel_rfl)
theorem UB.row {v:U} {q:Value} (h:UB w g v q) (u:U) (p:Value):UB (w.setRow g (cells u p)) g u p:=setRow_heap w g (cells v q) (cells u p) _ (0,0) h
theorem aC {ops:Array Oper} {rest:List Oper} {o:Oper} {a:Act} {Q:Exit→Act→World→Prop} {v:U} {q:Value} (hU:UB w g v q) (u:U) (A:Option Addr) (n c:Nat) (x y:Operand) (ho:o.op=.store 25 x y) (hgd:o.guard=none)
  (hx:a.eval x=.pointer (some ⟨g,0,none⟩)) (hy:a.eval y=.agg (cells u (.slice A n c)))
  (h:wpList Tryz.prog ops Q rest (a.put o.dst undef) (w.setRow g (cells u (.slice A n c)))):wpList Tryz.prog ops Q (o::rest) a w:=
 wpList_store_row hgd 25 x y ho g (cells u (.slice A n c)) hx hy 25 (cells v q) hU (by kernel_rfl) rfl (by simp[cells,Value.oneCell']) h
theorem laid1 (w:World) (a:Array Value) (T:TypeId):(w.alloc (.cells a T)).heap[w.heap.size]?=some (.cells a T (0,0))∧Below w.heap.size w (w.alloc (.cells a T)):=
 ⟨heap_alloc_new w _,(Below.refl _ _).alloc (Nat.le_refl _) _⟩
theorem laid2 (w:World) (a b:Array Value) (T S:TypeId):((w.alloc (.cells a T)).alloc (.cells b S)).heap[w.heap.size]?=some (.cells a T (0,0))∧((w.alloc (.cells a T)).alloc (.cells b S)).heap[w.heap.size+1]?=some (.cells b S (0,0))∧Below w.heap.size w ((w.alloc (.cells a T)).alloc (.cells b S)):=by
 obtain⟨h1,h2⟩:=laid1 w a T
 have h3:=laid1 (w.alloc (.cells a T)) b S
 have hs:(w.alloc (.cells a T)).heap.size=w.heap.size+1:=by simp
 rw[hs]at h3
 exact⟨(h3.2.block _ (by omega)).trans h1,h3.1,h2.trans (h3.2.mono (by omega))⟩
theorem aml (w:World) (a b c:Array Value) (T S R:TypeId):(((w.alloc (.cells a T)).alloc (.cells b S)).alloc (.cells c R)).heap[w.heap.size]?=some (.cells a T (0,0))∧(((w.alloc (.cells a T)).alloc (.cells b S)).alloc (.cells c R)).heap[w.heap.size+1]?=some (.cells b S (0,0))∧(((w.alloc (.cells a T)).alloc (.cells b S)).alloc (.cells c R)).heap[w.heap.size+1+1]?=some (.cells c R (0,0))∧Below w.heap.size w (((w.alloc (.cells a T)).alloc (.cells b S)).alloc (.cells c R)):=by
 obtain⟨h1,h2,h4⟩:=laid2 w a b T S
 have h3:=laid1 ((w.alloc (.cells a T)).alloc (.cells b S)) c R
 have hs:((w.alloc (.cells a T)).alloc (.cells b S)).heap.size=w.heap.size+1+1:=by simp
 rw[hs]at h3
 exact⟨(h3.2.block _ (by omega)).trans h1,(h3.2.block _ (by omega)).trans h2,h3.1,h4.trans (h3.2.mono (by omega))⟩
end Go.Proofs.YtgamccijegollaaGreatDoor.mW
namespace Go.Proofs.YtgamccijegollaaGreatDoor.Kq
open Go.RowKit Base Dp aZ mW
def OB (w:World) (g:Nat) (s h:ByteArray) (p n:Int):Prop:=w.heap[g]?=some (.cells #[.string s,.string h,.int .i64 p,.int .i64 n] 38 (0,0))
section
variable {w w':World} {g:Nat} {s h:ByteArray} {p n:Int}
theorem OB.lt (x:OB w g s h p n):g<w.heap.size:=(Array.getElem?_eq_some_iff.1 x).1
theorem OB.below (x:OB w g s h p n) (hb:Below w.heap.size w w'):OB w' g s h p n:=(hb.block g x.lt).trans x
theorem OB.facts (x:OB w g s h p n):w.cell? ⟨g,0,none⟩=some (.string s)∧w.cell? ⟨g,1,none⟩=some (.string h)∧w.cell? ⟨g,2,none⟩=some (.int .i64 p)∧w.cell? ⟨g,3,none⟩=some (.int .i64 n):=
 ⟨cell_of_row w g 0 _ _ _ x,cell_of_row w g 1 _ _ _ x,cell_of_row w g 2 _ _ _ x,cell_of_row w g 3 _ _ _ x⟩
end
def pG (s1 h1:List UInt8) (p1 n1:Int) (s2 h2:List UInt8) (p2 n2:Int):Bool:=if s1=[]∧s2=[]then decide (n1=n2)else decide (s1=s2)&&(decide (h1=h2)&&decide (p1=p2))
theorem uK (s1 h1:ByteArray) (p1 n1:Int) (w:World):Calls Tryz.prog 25 #[.agg #[.string s1,.string h1,.int .i64 p1,.int .i64 n1]] w fun e w'=>e=.returned (.bool (decide (s1.data.toList≠[])))∧Below w.heap.size w w':=by
 obtain⟨b,hb⟩:∃b,b=decide (s1.data.toList≠[]):=⟨_,rfl⟩
 rw[←hb]
 by_cases hs:s1.data.toList=[]
 ·have q0:(s1.toList==[])=true:=by rw[tl,hs];rfl
  have q1:s1.toList=[]:=by rw[tl,hs]
  have HB:Hid (b=false):=by show _=_;rw[hb,hs];rfl
  clear hs hb
  go_enter Tryz.func25,Tryz.ntmps25
  go_wp2
  go_ret
  exact⟨by rw[HB.out];first|done|rfl,(Below.refl _ _).alloc (Nat.le_refl _) _⟩
 have q0:(s1.toList==[])=false:=by rw[tl,beq_eq_false_iff_ne];exact hs
 have q1:¬s1.toList=[]:=by rw[tl];exact hs
 have HB:Hid (b=true):=by show _=_;rw[hb];simpa using hs
 clear hs hb
 go_enter Tryz.func25,Tryz.ntmps25
 go_wp2
 go_ret
 exact⟨by rw[HB.out];first|done|rfl,(Below.refl _ _).alloc (Nat.le_refl _) _⟩
theorem JA (s1 h1:ByteArray) (p1 n1:Int) (s2 h2:ByteArray) (p2 n2:Int) (w:World):Calls Tryz.prog 39 #[.agg #[.string s1,.string h1,.int .i64 p1,.int .i64 n1],.agg #[.string s2,.string h2,.int .i64 p2,.int .i64 n2]] w fun e w'=>e=.returned (.bool (pG s1.data.toList h1.data.toList p1 n1 s2.data.toList h2.data.toList p2 n2))∧Below w.heap.size w w':=by
 obtain⟨b,hb⟩:∃b,b=pG s1.data.toList h1.data.toList p1 n1 s2.data.toList h2.data.toList p2 n2:=⟨_,rfl⟩
 rw[←hb]
 by_cases a1:s1.data.toList=[]
 ·
  have qa0:(s1.toList==[])=true:=by rw[tl,a1];simp
  have qa1:s1.toList=[]:=by rw[tl,a1]
  by_cases a2:s2.data.toList=[]
  ·
   have qb0:(s2.toList==[])=true:=by rw[tl,a2];simp
   have qb1:s2.toList=[]:=by rw[tl,a2]
   have HT1:Hid (∀w:World,Calls Tryz.prog 25 #[.agg #[.string s1,.string h1,.int .i64 p1,.int .i64 n1]] w fun e w'=>e=.returned (.bool false)∧Below w.heap.size w w'):=fun w=>by
    have h:=uK s1 h1 p1 n1 w
    rw[show decide (s1.data.toList≠[])=false from by simp[a1]]at h
    exact h
   have HT2:Hid (∀w:World,Calls Tryz.prog 25 #[.agg #[.string s2,.string h2,.int .i64 p2,.int .i64 n2]] w fun e w'=>e=.returned (.bool false)∧Below w.heap.size w w'):=fun w=>by
    have h:=uK s2 h2 p2 n2 w
    rw[show decide (s2.data.toList≠[])=false from by simp[a2]]at h
    exact h
   have HB:Hid (b=(n1==n2)):=by show _=_;rw[hb];unfold pG;rw[if_pos ⟨a1,a2⟩];rw[Bool.eq_iff_iff];simp
   clear hb a1 a2
   go_enter Tryz.func39,Tryz.ntmps39
   go_upto_region 1 with(fail)
   generalize bI:World.alloc (World.alloc w _) _=v1
   have h1_:OB v1 w.heap.size s1 h1 p1 n1∧OB v1 (w.heap.size+1) s2 h2 p2 n2∧Below w.heap.size w v1:=by
    subst bI
    exact laid2 w _ _ _ _
   clear bI
   have X1:=hid h1_.1
   have X2:=hid h1_.2.1
   have hb:=h1_.2.2
   clear h1_
   have HB1:=hid hb
   clear hb
   obtain⟨o0,o1,o2,o3⟩:=X1.out.facts
   go_wp2_with fail
   clear o0 o1 o2 o3
   refine(HT1.out _).mono ?_
   rintro e w2 ⟨rfl,hb⟩
   have HB2:=hid (bel HB1.out hb)
   have Xb:=hid (X1.out.below hb)
   have Pn:=hid (X2.out.below hb)
   clear hb
   obtain⟨o0,o1,o2,o3⟩:=Pn.out.facts
   go_wp2_with fail
   clear o0 o1 o2 o3
   refine(HT2.out _).mono ?_
   rintro e w3 ⟨rfl,hb⟩
   have HB3:=hid (bel HB2.out hb)
   have acW:=hid (Xb.out.below hb)
   have aqT:=hid (Pn.out.below hb)
   clear hb
   obtain⟨o0,o1,o2,o3⟩:=acW.out.facts
   obtain⟨r0,r1,r2,r3⟩:=aqT.out.facts
   go_wp2
   go_ret
   exact⟨by rw[HB.out];first|done|rfl|simp,HB3.out⟩
  ·
   have qb0:(s2.toList==[])=false:=by rw[tl,beq_eq_false_iff_ne];exact a2
   have qb1:¬s2.toList=[]:=by rw[tl];exact a2
   have HT1:Hid (∀w:World,Calls Tryz.prog 25 #[.agg #[.string s1,.string h1,.int .i64 p1,.int .i64 n1]] w fun e w'=>e=.returned (.bool false)∧Below w.heap.size w w'):=fun w=>by
    have h:=uK s1 h1 p1 n1 w
    rw[show decide (s1.data.toList≠[])=false from by simp[a1]]at h
    exact h
   have HT2:Hid (∀w:World,Calls Tryz.prog 25 #[.agg #[.string s2,.string h2,.int .i64 p2,.int .i64 n2]] w fun e w'=>e=.returned (.bool true)∧Below w.heap.size w w'):=fun w=>by
    have h:=uK s2 h2 p2 n2 w
    rw[show decide (s2.data.toList≠[])=true from by simp[a2]]at h
    exact h
   have b1:¬s1.data.toList=s2.data.toList:=fun e=>a2 (by rw[←e];exact a1)
   have qc0:(s1.toList==s2.toList)=false:=by rw[tl,tl,beq_eq_false_iff_ne];exact b1
   have qc1:¬s1.toList=s2.toList:=by rw[tl,tl];exact b1
   have HB:Hid (b=false):=by show _=_;rw[hb];unfold pG;simp[a1,a2,Ne.symm a2]
   clear hb a1 a2 b1
   go_enter Tryz.func39,Tryz.ntmps39
   go_upto_region 1 with(fail)
   generalize bI:World.alloc (World.alloc w _) _=v1
   have h1_:OB v1 w.heap.size s1 h1 p1 n1∧OB v1 (w.heap.size+1) s2 h2 p2 n2∧Below w.heap.size w v1:=by
    subst bI
    exact laid2 w _ _ _ _
   clear bI
   have X1:=hid h1_.1
   have X2:=hid h1_.2.1
   have hb:=h1_.2.2
   clear h1_
   have HB1:=hid hb
   clear hb
   obtain⟨o0,o1,o2,o3⟩:=X1.out.facts
   go_wp2_with fail
   clear o0 o1 o2 o3
   refine(HT1.out _).mono ?_
   rintro e w2 ⟨rfl,hb⟩
   have HB2:=hid (bel HB1.out hb)
   have Xb:=hid (X1.out.below hb)
   have Pn:=hid (X2.out.below hb)
   clear hb
   obtain⟨o0,o1,o2,o3⟩:=Pn.out.facts
   go_wp2_with fail
   clear o0 o1 o2 o3
   refine(HT2.out _).mono ?_
   rintro e w3 ⟨rfl,hb⟩
   have HB3:=hid (bel HB2.out hb)
   have acW:=hid (Xb.out.below hb)
   have aqT:=hid (Pn.out.below hb)
   clear hb
   obtain⟨o0,o1,o2,o3⟩:=acW.out.facts
   obtain⟨r0,r1,r2,r3⟩:=aqT.out.facts
   go_wp2
   go_ret
   exact⟨by rw[HB.out];first|done|rfl|simp,HB3.out⟩
 ·
  have qa0:(s1.toList==[])=false:=by rw[tl,beq_eq_false_iff_ne];exact a1
  have qa1:¬s1.toList=[]:=by rw[tl];exact a1
  have a2:True:=trivial
  have HT1:Hid (∀w:World,Calls Tryz.prog 25 #[.agg #[.string s1,.string h1,.int .i64 p1,.int .i64 n1]] w fun e w'=>e=.returned (.bool true)∧Below w.heap.size w w'):=fun w=>by
   have h:=uK s1 h1 p1 n1 w
   rw[show decide (s1.data.toList≠[])=true from by simp[a1]]at h
   exact h
  by_cases b1:s1.data.toList=s2.data.toList
  rotate_left
  ·
   have qc0:(s1.toList==s2.toList)=false:=by rw[tl,tl,beq_eq_false_iff_ne];exact b1
   have qc1:¬s1.toList=s2.toList:=by rw[tl,tl];exact b1
   have HB:Hid (b=false):=by show _=_;rw[hb];unfold pG;simp[a1,b1]
   clear hb a1 a2 b1
   go_enter Tryz.func39,Tryz.ntmps39
   go_upto_region 1 with(fail)
   generalize bI:World.alloc (World.alloc w _) _=v1
   have h1_:OB v1 w.heap.size s1 h1 p1 n1∧OB v1 (w.heap.size+1) s2 h2 p2 n2∧Below w.heap.size w v1:=by
    subst bI
    exact laid2 w _ _ _ _
   clear bI
   have X1:=hid h1_.1
   have X2:=hid h1_.2.1
   have hb:=h1_.2.2
   clear h1_
   have HB1:=hid hb
   clear hb
   obtain⟨o0,o1,o2,o3⟩:=X1.out.facts
   go_wp2_with fail
   clear o0 o1 o2 o3
   refine(HT1.out _).mono ?_
   rintro e w2 ⟨rfl,hb⟩
   have HB2:=hid (bel HB1.out hb)
   have Xb:=hid (X1.out.below hb)
   have Pn:=hid (X2.out.below hb)
   clear hb
   obtain⟨o0,o1,o2,o3⟩:=Xb.out.facts
   obtain⟨r0,r1,r2,r3⟩:=Pn.out.facts
   go_wp2
   go_ret
   exact⟨by rw[HB.out];first|done|rfl|simp,HB2.out⟩
  have a3:¬s2.data.toList=[]:=by rw[←b1];exact a1
  have qb0:(s2.toList==[])=false:=by rw[tl,beq_eq_false_iff_ne];exact a3
  have qb1:¬s2.toList=[]:=by rw[tl];exact a3
  clear a3
  have qc0:(s1.toList==s2.toList)=true:=by rw[tl,tl,b1];simp
  have qc1:s1.toList=s2.toList:=by rw[tl,tl,b1]
  by_cases b2:h1.data.toList=h2.data.toList
  rotate_left
  ·
   have qd0:(h1.toList==h2.toList)=false:=by rw[tl,tl,beq_eq_false_iff_ne];exact b2
   have qd1:¬h1.toList=h2.toList:=by rw[tl,tl];exact b2
   have HB:Hid (b=false):=by show _=_;rw[hb];unfold pG;simp[a1,b2]
   clear hb a1 a2 b1 b2
   go_enter Tryz.func39,Tryz.ntmps39
   go_upto_region 1 with(fail)
   generalize bI:World.alloc (World.alloc w _) _=v1
   have h1_:OB v1 w.heap.size s1 h1 p1 n1∧OB v1 (w.heap.size+1) s2 h2 p2 n2∧Below w.heap.size w v1:=by
    subst bI
    exact laid2 w _ _ _ _
   clear bI
   have X1:=hid h1_.1
   have X2:=hid h1_.2.1
   have hb:=h1_.2.2
   clear h1_
   have HB1:=hid hb
   clear hb
   obtain⟨o0,o1,o2,o3⟩:=X1.out.facts
   go_wp2_with fail
   clear o0 o1 o2 o3
   refine(HT1.out _).mono ?_
   rintro e w2 ⟨rfl,hb⟩
   have HB2:=hid (bel HB1.out hb)
   have Xb:=hid (X1.out.below hb)
   have Pn:=hid (X2.out.below hb)
   clear hb
   obtain⟨o0,o1,o2,o3⟩:=Xb.out.facts
   obtain⟨r0,r1,r2,r3⟩:=Pn.out.facts
   go_wp2
   go_ret
   exact⟨by rw[HB.out];first|done|rfl|simp,HB2.out⟩
  have qd0:(h1.toList==h2.toList)=true:=by rw[tl,tl,b2];simp
  have qd1:h1.toList=h2.toList:=by rw[tl,tl,b2]
  have HB:Hid (b=(p1==p2)):=by show _=_;rw[hb];unfold pG;rw[if_neg (by simp[a1]),decide_eq_true b1,decide_eq_true b2,Bool.true_and,Bool.true_and];rw[Bool.eq_iff_iff];simp
  clear hb a1 a2 b1 b2
  go_enter Tryz.func39,Tryz.ntmps39
  go_upto_region 1 with(fail)
  generalize bI:World.alloc (World.alloc w _) _=v1
  have h1_:OB v1 w.heap.size s1 h1 p1 n1∧OB v1 (w.heap.size+1) s2 h2 p2 n2∧Below w.heap.size w v1:=by
   subst bI
   exact laid2 w _ _ _ _
  clear bI
  have X1:=hid h1_.1
  have X2:=hid h1_.2.1
  have hb:=h1_.2.2
  clear h1_
  have HB1:=hid hb
  clear hb
  obtain⟨o0,o1,o2,o3⟩:=X1.out.facts
  go_wp2_with fail
  clear o0 o1 o2 o3
  refine(HT1.out _).mono ?_
  rintro e w2 ⟨rfl,hb⟩
  have HB2:=hid (bel HB1.out hb)
  have Xb:=hid (X1.out.below hb)
  have Pn:=hid (X2.out.below hb)
  clear hb
  obtain⟨o0,o1,o2,o3⟩:=Xb.out.facts
  obtain⟨r0,r1,r2,r3⟩:=Pn.out.facts
  go_wp2
  go_ret
  exact⟨by rw[HB.out];first|done|rfl|simp,HB2.out⟩
end Go.Proofs.YtgamccijegollaaGreatDoor.Kq
namespace Go.Proofs.YtgamccijegollaaGreatDoor.PthK
open Go.RowKit Base Dp acD L6
theorem lK (w:World) (s:ByteArray) (p:Nat):Below w.heap.size w (w.iter s p):=(Below.refl _ _).alloc (Nat.le_refl _) _
theorem fF (r:Int) (w:World) (h0:128≤r):Calls Tryz.prog 318 #[.int .i32 r] w fun e w'=>e=.returned (.bool (validRune r))∧w=w':=by
 have q0:(0:Int)≤r:=by omega
 by_cases h1:r<55296
 ·have HV:Hid (validRune r=true):=decide_eq_true (.inl ⟨q0,h1⟩)
  go_enter Tryz.func318,Tryz.ntmps318
  go_wp2
  go_ret
  exact⟨ak HV.out.symm,rfl⟩
 by_cases h2:57343<r
 ·by_cases h3:r≤1114111
  ·have HV:Hid (validRune r=true):=decide_eq_true (.inr ⟨h2,h3⟩)
   go_enter Tryz.func318,Tryz.ntmps318
   go_wp2
   go_ret
   exact⟨ak HV.out.symm,rfl⟩
  have HV:Hid (validRune r=false):=decide_eq_false (by omega)
  go_enter Tryz.func318,Tryz.ntmps318
  go_wp2
  go_ret
  exact⟨ak HV.out.symm,rfl⟩
 have HV:Hid (validRune r=false):=decide_eq_false (by omega)
 go_enter Tryz.func318,Tryz.ntmps318
 go_wp2
 go_ret
 exact⟨ak HV.out.symm,rfl⟩
def two:ByteArray:=⟨#[47,92]⟩
theorem D7 (r : Int) (w : World) (h0 : 128 ≤ r) : Calls Tryz.prog 292 #[.string two, .int .i32 r] w fun e w' => e = .returned (.int .i64 (-1)) ∧ Below w.heap.size w w' := by
 have q0:(0:Int)≤r:=by omega
 have q1:¬r<128:=by omega
 obtain⟨T,hT⟩:∃T,T=two:=⟨_,rfl⟩
 have hsz:T.size=2:=by rw[hT];rfl
 have g0:∀h,T[0]'h=47:=by subst hT;intro h;rfl
 have g1:∀h,T[1]'h=92:=by subst hT;intro h;rfl
 rw[←hT]
 by_cases hE:r=65533
 ·subst hE
  have hn0:∀ty,(Instr.next (.pointer (some ⟨w.heap.size,0,none⟩)) true ty).run Tryz.prog (w.iter T 0)=.ok (.tuple #[.bool true,.int .i64 0,.int .i32 47]) (w.iter T 1):=fun ty=>by
   have:=run_next_ascii (P:=Tryz.prog) w T 0 ty (by omega) (by rw[g0];decide)
   rw[g0]at this
   exact this
  have hn1:∀ty,(Instr.next (.pointer (some ⟨w.heap.size,0,none⟩)) true ty).run Tryz.prog (w.iter T 1)=.ok (.tuple #[.bool true,.int .i64 1,.int .i32 92]) (w.iter T 2):=fun ty=>by
   have:=run_next_ascii (P:=Tryz.prog) w T 1 ty (by omega) (by rw[g1];decide)
   rw[g1]at this
   exact this
  have hn2:∀ty,(Instr.next (.pointer (some ⟨w.heap.size,0,none⟩)) true ty).run Tryz.prog (w.iter T 2)=.ok (.tuple #[.bool false]) (w.iter T 2):=fun ty=>run_next_end w T 2 ty (by omega)
  clear hT g0 g1 hsz
  go_enter Tryz.func292,Tryz.ntmps292
  go_wp2
  go_loopg [5,6] 2 (fun g _ _ wx=>∃i:Nat,i+g=2∧wx=w.iter T i)
  case atStart=>exact⟨0,rfl,rfl⟩
  case round=>
   obtain⟨i,hig,rfl⟩:=hrel
   cases gk with
   |zero=>
    obtain rfl:i=2:=by omega
    go_wp2
    go_ret
    exact⟨rfl,lK _ _ _⟩
   |succ g=>
    cases g with
    |zero=>
     obtain rfl:i=1:=by omega
     go_wp2
     go_roundg 0
     case measure=>omega
     case rel=>exact⟨2,rfl,rfl⟩
    |succ g=>
     obtain rfl:g=0:=by omega
     obtain rfl:i=0:=by omega
     go_wp2
     go_roundg 1
     case measure=>omega
     case rel=>exact⟨1,rfl,rfl⟩
 cases hv:validRune r with
 |false=>
  have HV:=hid hv
  clear hT g0 g1 hsz hv
  go_enter Tryz.func292,Tryz.ntmps292
  go_wp2_with fail
  refine(fF r _ h0).mono ?_
  rintro e w2 ⟨rfl,rfl⟩
  rw[HV.out]
  go_wp2
  go_ret
  exact⟨rfl,Below.refl _ _⟩
 | true =>
  have HV:=hid hv
  obtain⟨hE2,hE4,hEl⟩:=encode_facts r (by rw[validRune_eq];exact hv) h0
  obtain⟨E,hEE⟩:∃E,E=Utf8.encode r:=⟨_,rfl⟩
  rw[←hEE]at hE2 hE4 hEl
  have hcv:∀w:World,(convert 21 9 (.int .i32 r)).run Tryz.prog w=.ok (.string E) w:=fun w=>by
   rw[hEE]
   exact run_convert_int_string w _ _ .i32 r (by rw[Tryz.underlying21];rfl) Tryz.underlying9
  clear hT hv hEE
  by_cases h2:E.size=2
  ·obtain ⟨c,hc⟩:∃c,c=E[1]'(by omega):=⟨_,rfl⟩
   have hc128:128≤c.toNat:=by
    have:=hEl (by omega)
    rw[hc]
    have e:E.size - 1=1:=by omega
    simpa[e]using this
   have g92:=g1 (by omega)
   have hne:((92:Int) !=(c.toNat:Int))=true:=by simp;omega
   have HC:=hid hc128
   have hcE:E[1]'(by omega)=c:=hc.symm
   have hz:(E.size:Int) - 1=1:=by omega
   clear hEl hE2 hE4 hc hc128 g0
   go_enter Tryz.func292,Tryz.ntmps292
   go_wp2_with fail
   refine(fF r _ h0).mono ?_
   rintro e w2 ⟨rfl,rfl⟩
   rw[HV.out]
   go_wp2
   go_step3
   go_wp2
   go_loopg [9] 0 (fun _ s9 wx=>s9=.int .i64 1∧wx=w)
   case atStart=>exact⟨int_eq (by omega),rfl⟩
   case round =>
    obtain⟨rfl,rfl⟩:=hrel
    go_wp2
    go_step3
    go_wp2
    go_region
    go_wp2_with fail
    refine aV (by kernel_rfl) [is (.string T),is (.int .i64 1),is (.int .i64 2),is (.string ByteArray.empty),is (.string E),is (.int .i64 1),is (.int .u8 (c.toNat:Int)),is (.int .i64 (-1)),is (.int .i64 (-1))] [[],[],[1],[0,2],[],[],[4,5],[3,6],[7]] (by kernel_rfl) ?_ ?_
    ·refine ⟨?_,?_,?_,?_,?_,?_,?_,?_,?_,trivial⟩
     all_goals(intro t wq hbq hh K hK;simp only[filled,upd,Have,is,any,row,pick,Act.put,List.setIfInBounds_toArray,List.set_cons_zero,List.set_cons_succ,Nat.reduceAdd,Nat.reduceEqDiff,reduceIte,List.tail_cons,List.headD_cons]at hh hK⊢)
     iterate 2
      ·clear hh
       go_simp
       exact hK _ _ blr rfl
     ·have e1:=hh.1
      clear hh
      simp only[e1]at hK⊢
      go_simp
      first|exact hK _ _ blr rfl|exact hK _ _ blr (iC (by omega) (by omega))
     iterate 4
      ·try simp only[hh]at hK⊢
       clear hh
       go_simp
       exact hK _ _ blr rfl
     ·have e3:=hh.1
      have e6:=hh.2.1
      clear hh
      simp only[e3,e6]at hK⊢
      go_simp
      refine(Tryz.strings_IndexByte ByteArray.empty _ _).mono ?_
      rintro e wz ⟨rfl,hwz⟩
      subst hwz
      exact hK _ _ blr rfl
     try simp only[hh]at hK⊢
     clear hh
     go_simp
     exact hK _ _ blr rfl
    intro t wq hbq hh
    have f8:=aB hh 8 (by decide)
    simp only[pick]at f8
    replace f8:t 8=(.int .i64 (-1)):=f8
    clear hh
    simp only[filled,upd,Have,is,any,row,pick,Act.put,List.setIfInBounds_toArray,List.set_cons_zero,List.set_cons_succ,Nat.reduceAdd,Nat.reduceEqDiff,reduceIte]
    simp only[f8]
    go_wp2
    rw[Exit.noGoto_ret]
    go_simp
    go_ret
    exact⟨rfl,CY (Below.refl _ _) hbq⟩
  have h3:3≤E.size:=by omega
  clear hEl g0 g1 h2
  have q3:¬((E.size:Int) - 1<2):=by omega
  go_enter Tryz.func292,Tryz.ntmps292
  go_wp2_with fail
  refine(fF r _ h0).mono ?_
  rintro e w2 ⟨rfl,rfl⟩
  rw[HV.out]
  go_wp2
  go_step3
  go_wp2
  go_loopg [9] 0 (fun _ s9 wx=>s9=.int .i64 ((E.size:Int) - 1)∧wx=w)
  case atStart=>exact⟨rfl,rfl⟩
  case round=>
   obtain⟨rfl,rfl⟩:=hrel
   go_wp2
   rw[Exit.noGoto_ret]
   go_ret
   exact⟨rfl,Below.refl _ _⟩
theorem vJ (r:Int) (w:World) (h0:0≤r) (h1:r<128):Calls Tryz.prog 292 #[.string two,.int .i32 r] w fun e w'=>e=.returned (.int .i64 (Lib.indexByte two.data.toList r.toNat.toUInt8))∧w'=w:=Any.strings_IndexRune_ascii {Tryz.l153 with} two r w h0 h1
theorem abL (c:UInt8) (h:128≤c.toNat) (sp:Bool):gB sp c=false:=by
 have h1:c≠47:=by rintro rfl;exact absurd h (by decide)
 have h2:c≠92:=by rintro rfl;exact absurd h (by decide)
 unfold gB
 rw[decide_eq_false h1,decide_eq_false h2]
 cases sp<;>rfl
theorem Qq (s:ByteArray) (i:Nat) (h:i<s.size):(s.get! i)=s[i]'h:=by
 simp[ByteArray.get!,getElem!_pos,h]
 rfl
theorem wide (s:ByteArray) (i:Nat) (h:i<s.size) (ha:128≤(s[i]'h).toNat):i+(Utf8.decode s i).2≤s.size∧∀j (hj:j<s.size),i≤j→j<i+(Utf8.decode s i).2→128≤(s[j]'hj).toNat:=by
 have hn:¬(s[i]'h).toNat<128:=by omega
 have one:i+1≤s.size∧∀j (hj:j<s.size),i≤j→j<i+1→128≤(s[j]'hj).toNat:=⟨by omega,fun j hj h1 h2=>by
  obtain rfl:j=i:=by omega
  exact ha⟩
 simp only[Utf8.decode,get_at s i h,hn,if_false]
 have c1:∀k,(decide (i+k<s.size)&&(s.get! (i+k)).toNat / 64==2)=true→∃hk:i+k<s.size,128≤(s[i+k]'hk).toNat:=fun k hk=>by
  simp only[Bool.and_eq_true,decide_eq_true_eq,beq_iff_eq]at hk
  refine⟨hk.1,?_⟩
  have:=hk.2
  rw[Qq s _ hk.1]at this
  omega
 split
 ·rename_i h2
  simp only[Bool.and_eq_true]at h2
  obtain⟨k1,b1⟩:=c1 1 (by simpa using h2.2)
  split
  ·refine⟨by show i+2≤_;omega,fun j hj h1 h2=>?_⟩
   replace h2:j<i+2:=h2
   have:j=i∨j=i+1:=by omega
   rcases this with rfl|rfl
   ·exact ha
   exact b1
  exact one
 split
 ·rename_i h2
  simp only[Bool.and_eq_true]at h2
  obtain⟨k1,b1⟩:=c1 1 (by simpa using h2.1.2)
  obtain⟨k2,b2⟩:=c1 2 (by simpa using h2.2)
  split
  ·refine⟨by show i+3≤_;omega,fun j hj h1 h2=>?_⟩
   replace h2:j<i+3:=h2
   have:j=i∨j=i+1∨j=i+2:=by omega
   rcases this with rfl|rfl|rfl
   ·exact ha
   ·exact b1
   exact b2
  exact one
 split
 ·rename_i h2
  simp only[Bool.and_eq_true]at h2
  obtain⟨k1,b1⟩:=c1 1 (by simpa using h2.1.1.2)
  obtain⟨k2,b2⟩:=c1 2 (by simpa using h2.1.2)
  obtain⟨k3,b3⟩:=c1 3 (by simpa using h2.2)
  split
  ·refine⟨by show i+4≤_;omega,fun j hj h1 h2=>?_⟩
   replace h2:j<i+4:=h2
   have:j=i∨j=i+1∨j=i+2∨j=i+3:=by omega
   rcases this with rfl|rfl|rfl|rfl
   ·exact ha
   ·exact b1
   ·exact b2
   exact b3
  exact one
 exact one
def ZJ (w:World) (k:Nat) (s:ByteArray) (p:Nat):World:={w with heap:=w.heap.setIfInBounds k (.stringIter s p)}
theorem Pz (w:World) (k:Nat) (s:ByteArray) (p:Nat) (h:k<w.heap.size):(ZJ w k s p).heap[k]?=some (.stringIter s p):=by
 show(w.heap.setIfInBounds k _)[k]?=_
 simp[h]
theorem yC {w0 w:World} (h:Below w0.heap.size w0 w) (s:ByteArray) (p:Nat):Below w0.heap.size w0 (ZJ w w0.heap.size s p):=
 ⟨h.os,h.tape,h.output,by show _≤(w.heap.setIfInBounds _ _).size;simpa using h.size,fun k hk=>by
  show(w.heap.setIfInBounds _ _)[k]?=_
  rw[Array.getElem?_setIfInBounds_ne (by omega)]
  exact h.block k hk⟩
theorem next_any {P:Program} (w:World) (k:Nat) (s:ByteArray) (pos:Nat) (ty:TypeId) (hk:w.heap[k]?=some (.stringIter s pos)) (h:pos<s.size):
  (Instr.next (.pointer (some ⟨k,0,none⟩)) true ty).run P w=.ok (.tuple #[.bool true,.int .i64 pos,.int .i32 (Utf8.decode s pos).1]) (ZJ w k s (pos+(Utf8.decode s pos).2)):=by
 simp only[Instr.next,getObj,setObj,Sem.run_bind,Sem.run,hk,Result.andThen,h,if_true]
 simp[goInt,ZJ]
theorem DI {P:Program} (w:World) (k:Nat) (s:ByteArray) (pos:Nat) (ty:TypeId) (hk:w.heap[k]?=some (.stringIter s pos)) (h:¬pos<s.size):
  (Instr.next (.pointer (some ⟨k,0,none⟩)) true ty).run P w=.ok (.tuple #[.bool false]) w:=by
 simp[Instr.next,getObj,Sem.run,hk,h]
theorem short_any (s:ByteArray) (w:World) (h8:s.size≤8):
  Calls Tryz.prog 280 #[.string s,.string two] w fun e w'=>e=.returned (.int .i64 (Lib.indexAny s.data.toList [47,92]))∧Below w.heap.size w w':=by
 have hemp:two.toList.isEmpty=false:=by unfold two;rw[ByteArray.toList_mk];rfl
 have hsz2:((two.size:Int)==1)=false:=rfl
 have h8z:decide ((8:Int)<(s.size:Int))=false:=decide_eq_false (by omega)
 have hL:s.data.toList.length=s.size:=Array.length_toList
 have HL:=hid hL
 clear hL
 have Du:=vJ
 have Dw:=D7
 obtain⟨T,hT⟩:∃T,T=two:=⟨_,rfl⟩
 rw[←hT]at Du Dw
 have MB:=hid Du
 have Zg:=hid Dw
 clear Du Dw
 rw[←hT]at hemp hsz2⊢
 have HT:=hid hT
 clear hT
 go_enter Tryz.func280,Tryz.ntmps280
 go_wp2_with fail
 refine(Any.strings_shouldUseASCIISet {Tryz.l153 with} _ _).mono ?_
 rintro e w2 ⟨rfl,hw2⟩
 subst hw2
 rw[h8z]
 go_wp2
 go_loopg [9,10] s.size (fun g _ _ wx=>∃i:Nat,i≤s.size∧s.size≤i+g∧wx.heap[w2.heap.size]?=some (.stringIter s i)∧Hid (Below w2.heap.size w2 wx)∧Hid (Lib.NoAny s.data.toList [47,92] i))
 case atStart=>exact⟨0,Nat.zero_le _,by omega,World.iter_heap _ _ _,lK _ _ _,Lib.NoAny.zero _ _⟩
 case round=>
  obtain⟨i,hile,hig,hit,HB,HN⟩:=hrel
  have FD:w2.heap.size<wr.heap.size:=(Array.getElem?_eq_some_iff.1 hit).1
  by_cases hi:i<s.size
  ·obtain ⟨g,rfl⟩:∃g,gk=g+1:=⟨gk - 1,by omega⟩
   obtain⟨x,hx⟩:∃x:UInt8,s[i]'hi=x:=⟨_,rfl⟩
   have hxl:s.data.toList[i]?=some x:=by rw[←hx];exact Lib.data_getElem? s i hi
   have hnx:=fun ty=>next_any (P:=Tryz.prog) wr w2.heap.size s i ty hit hi
   obtain⟨r,hr⟩:∃r:Nat,r=(Utf8.decode s i).1:=⟨_,rfl⟩
   obtain⟨d,hd⟩:∃d:Nat,d=(Utf8.decode s i).2:=⟨_,rfl⟩
   rw[←hr,←hd]at hnx
   obtain⟨wa,bI⟩:∃wa,wa=ZJ wr w2.heap.size s (i+d):=⟨_,rfl⟩
   have hia:wa.heap[w2.heap.size]?=some (.stringIter s (i+d)):=by rw[bI];exact Pz _ _ _ _ FD
   have HBA:Hid (Below w2.heap.size w2 wa):=by show Below _ _ _;rw[bI];exact yC HB.out _ _
   have hka:w2.heap.size<wa.heap.size:=(Array.getElem?_eq_some_iff.1 hia).1
   rw[←bI]at hnx
   have HIA:=hid hia
   have HKA:=hid hka
   clear bI hit FD hia hka
   by_cases hx128:x.toNat<128
   ·obtain rfl:d=1:=by rw[hd,decode_ascii s i hi (by rw[hx];exact hx128)]
    obtain rfl:r=x.toNat:=by rw[hr,decode_ascii s i hi (by rw[hx];exact hx128),hx]
    have Hx:=hid hxl
    have HBK:Hid (((x.toNat:Int)).toNat.toUInt8=x):=by show _=_;simp
    have Y4:=hid (Lib.contains_iff_indexByte [47,92] x)
    have hx0:(0:Int)≤(x.toNat:Int):=by omega
    clear hxl hx hr hd
    cases hin:([47,92]:List UInt8).contains x
    ·have hlt:¬((0:Int)≤Lib.indexByte T.data.toList x):=by rw[HT.out];exact of_decide_eq_false (Y4.out.symm.trans hin)
     have Y7:=hid hin
     clear hin
     go_wp2_with fail
     refine(MB.out _ _ hx0 (by omega)).mono ?_
     rintro e w3 ⟨rfl,hw3⟩
     subst hw3
     rw[HBK.out]
     go_wp2
     go_roundg g
     case measure=>omega
     case rel=>exact⟨i+1,by omega,by omega,HIA.out,HBA,HN.out.succ Hx.out Y7.out⟩
    ·have hlt:(0:Int)≤Lib.indexByte T.data.toList x:=by rw[HT.out];exact of_decide_eq_true (Y4.out.symm.trans hin)
     have Y7:=hid hin
     clear hin
     go_wp2_with fail
     refine(MB.out _ _ hx0 (by omega)).mono ?_
     rintro e w3 ⟨rfl,hw3⟩
     subst hw3
     rw[HBK.out]
     go_wp2
     go_ret
     exact⟨by rw[Lib.indexAny_hit HN.out Hx.out Y7.out];rfl,HBA.out⟩
   ·obtain ⟨aaw,hpos⟩:=decode_high s i hi (by rw[hx];omega)
    have HWD:=wide s i hi (by rw[hx];omega)
    rw[←hr]at aaw
    rw[←hd]at hpos HWD
    have HNX:Hid (Lib.NoAny s.data.toList [47,92] (i+d)):=fun j b hj hb=>by
     by_cases hji:j<i
     ·exact HN.out j b hji hb
     ·obtain⟨hjs,e⟩:=List.getElem?_eq_some_iff.1 hb
      have aax:j<s.size:=by rw[HL.out]at hjs;exact hjs
      have:=HWD.2 j aax (by omega) hj
      have hb':s[j]'aax=b:=e
      rw[hb']at this
      have:=abL b this true
      rw[←afd]at this
      exact this
    have hid1:=HWD.1
    have ajw:Hid (128≤(r:Int)):=by show _≤_;omega
    clear hr hd HWD hx hxl aaw
    go_wp2_with fail
    refine(Zg.out _ _ ajw.out).mono ?_
    rintro e w3 ⟨rfl,hb3⟩
    have HI3:Hid (w3.heap[w2.heap.size]?=some (.stringIter s (i+d))):=(hb3.block _ HKA.out).trans HIA.out
    have HB3:Hid (Below w2.heap.size w2 w3):=bel HBA.out hb3
    clear hb3
    go_wp2
    go_roundg g
    case measure=>omega
    case rel=>exact⟨i+d,by omega,by omega,HI3.out,HB3,HNX⟩
  ·obtain rfl:i=s.size:=by omega
   have hnx:=fun ty=>DI (P:=Tryz.prog) wr w2.heap.size s s.size ty hit hi
   go_wp2
   go_ret
   exact⟨by rw[Lib.indexAny_none (by rw[HL.out];exact HN.out)];rfl,HB.out⟩
end Go.Proofs.YtgamccijegollaaGreatDoor.PthK
namespace Go.Proofs.YtgamccijegollaaGreatDoor.WS
open Go.RowKit Base Dp acj acA acG acv ac2 acD
def cs (sp:Bool):ByteArray:=strOf (chs sp)
theorem ac0 (sp:Bool) (s:ByteArray) (w:World) (hs:s.size≤1073741824):
  Calls Tryz.prog 280 #[.string s,.string (cs sp)] w fun e w'=>e=.returned (.int .i64 (if upto sp s.data.toList<s.size then(upto sp s.data.toList:Int)else -1))∧Below w.heap.size w w':=by
 have hsz:s.data.toList.length=s.size:=Array.length_toList
 have hi:=Vq sp s.data.toList
 rw[hsz]at hi
 rw[←hi]
 cases sp with
 |false=>exact(Tryz.strings_IndexAny_one s (cs false) w rfl (by intro j b h;match j,h with|0,h=>simp[cs,chs,strOf]at h;subst h;decide)).mono fun e w' ⟨h1,h2⟩=>⟨h1,h2▸Below.refl _ _⟩
 |true=>
  by_cases h8:8<s.size
  ·exact Tryz.strings_IndexAny_long s (cs true) w (Nat.le_refl _) h8 (by omega) (by decide) (by intro j b h;match j,h with|0,h=>(simp[cs,chs,strOf]at h;subst h;decide)|1,h=>(simp[cs,chs,strOf]at h;subst h;decide))
  ·exact PthK.short_any s w (by omega)
theorem walk_any (file sp:Bool) (A:Option Addr) (n cap:Nat) (l:List ByteArray) (s:ByteArray) (w:World) (hR:aY w A n (l.map Value.string)) (hnc:n≤cap) (hcm:cap≤maxLen) (hm:n+s.size≤900000):
  Calls Tryz.prog 279 #[.bool file,.bool sp,.slice A n cap,.string s] w (lu w.heap.size w (wb file sp l [] s.data.toList)):=by
 have hln:l.length=n:=by rw[←hR.1,List.length_map]
 have hsl:s.data.toList.length=s.size:=Array.length_toList
 obtain⟨S,hS⟩:∃S,S=wb file sp l [] s.data.toList:=⟨_,rfl⟩
 rw[←hS]
 have HS:=hid hS
 have HR:=hid hR
 have HL:=hid hln
 have HSL:=hid hsl
 have hn6:n≤1000000:=by omega
 clear hS hR hln hsl
 cases sp
 focus
  have YN:Hid (∀(s:ByteArray) (w:World),s.size≤1073741824→Calls Tryz.prog 280 #[.string s,.string ⟨#[47]⟩] w fun e w'=>e=.returned (.int .i64 (if upto false s.data.toList<s.size then(upto false s.data.toList:Int)else -1))∧Below w.heap.size w w'):=fun s w h=>ac0 false s w h
  obtain⟨p,hp⟩:∃p,p=false:=⟨_,rfl⟩
 rotate_left
 focus
  have YN:Hid (∀(s:ByteArray) (w:World),s.size≤1073741824→Calls Tryz.prog 280 #[.string s,.string ⟨#[47,92]⟩] w fun e w'=>e=.returned (.int .i64 (if upto true s.data.toList<s.size then(upto true s.data.toList:Int)else -1))∧Below w.heap.size w w'):=fun s w h=>ac0 true s w h
  obtain⟨p,hp⟩:∃p,p=true:=⟨_,rfl⟩
 rotate_left
 all_goals
  rw[←hp]at YN HS
  clear hp
  go_enter Tryz.func279,Tryz.ntmps279
  go_wp2_with fail
  refine(zS A n cap l _ HR.out hn6).mono ?_
  rintro e w2 ⟨v,rfl,hown2,hb2⟩
  have jy:=hid hown2
  clear hown2
  go_wp2
  go_loopw [3,10,11] (fun vs vo _ wr=>∃(M:List UInt8) (l':List ByteArray),vs=.string (strOf M)∧l'.length+M.length≤n+s.size∧Hid (wr.ownsRow w.heap.size 9 1 vo l'.length (l'.map Value.string))∧Hid (Below w.heap.size w wr)∧Hid (S=wb file p l' [] M)) (fun vs _ _ _=>match vs with| .string x=>x.size|_=>0)
  case atStart=>exact⟨s.data.toList,l,by rw[aG],by rw[HL.out,HSL.out];exact Nat.le_refl _,jy,hb2,HS⟩
  case round=>
   clear jy
   obtain⟨M,l',rfl,hlen,HO,HB,HW⟩:=hrel
   obtain⟨U,hU⟩:∃U,U=upto p M:=⟨_,rfl⟩
   obtain⟨Z,hZ⟩:∃Z,Z=strOf M:=⟨_,rfl⟩
   have hzs:Z.size=M.length:=by rw[hZ,o9]
   have hzl:Z.data.toList=M:=by rw[hZ];rfl
   have hul:U≤M.length:=by rw[hU];exact YH p M
   rw[←hZ]
   have HU:=hid hU
   have Am:=hid hzl
   have HZ:=hid hZ
   clear hU hZ hzl
   obtain⟨m,hm⟩:∃m,m=M.length:=⟨_,rfl⟩
   obtain⟨k,hk⟩:∃k,k=l'.length:=⟨_,rfl⟩
   rw[←hm]at hul hlen hzs
   rw[←hk]at hlen
   have HM:=hid hm
   have HK:=hid hk
   clear hm hk
   by_cases hlt:U<m
   ·have HRV:Hid ((if upto p Z.data.toList<Z.size then(upto p Z.data.toList:Int)else -1)=(U:Int)):=by
     show _=_
     rw[Am.out,←HU.out,if_pos (by omega)]
    have HT1:Hid (Z.extract 0 U=strOf (M.take U)):=by show _=_;rw[L6.ext_take,Am.out]
    have HT2:Hid (Z.extract (U+1) m=strOf (M.drop (U+1))):=by show _=_;rw[L6.ext_drop _ _ _ hzs.symm,Am.out]
    obtain⟨X,hX⟩:∃X,X=Z.extract 0 U:=⟨_,rfl⟩
    obtain⟨Y,hY⟩:∃Y,Y=Z.extract (U+1) m:=⟨_,rfl⟩
    rw[←hX]at HT1
    rw[←hY]at HT2
    have hxe:Z.extract 0 U=X:=hX.symm
    have hye:Z.extract (U+1) m=Y:=hY.symm
    clear hX hY
    have hxs:X.size≤1073741824:=by rw[HT1.out,o9,List.length_take];omega
    have hys:Y.size<m:=by rw[HT2.out,o9,List.length_drop,←HM.out];omega
    have hxd:Hid (X.data.toList=M.take U):=by show _=_;rw[HT1.out];rfl
    have HYS:=hid hys
    have hkm:k≤1000000:=by omega
    have hls:=vI file false l' X.data.toList
    rw[←HK.out]at hls
    have HLS:=hid hls
    clear hls hys
    go_wp2_with fail
    refine(YN.out Z _ (by omega)).mono ?_
    rintro e w3 ⟨rfl,hb3⟩
    rw[HRV.out]
    go_wp2_with fail
    refine(abK file false w.heap.size _ l' X _ (aP HO.out hb3) (Nat.le_trans HB.out.size hb3.size) (by rw[←HK.out];exact hkm) hxs).mono ?_
    rintro e w4 ⟨v4,rfl,hown4,hb4⟩
    have Ti:=hid hown4
    have HB4:Hid (Below w.heap.size w w4):=(bel HB.out hb3).trans (hb4.mono (Nat.le_refl _))
    clear hown4 hb4 hb3
    go_wp2
    go_roundw
    case rel=>exact⟨M.drop (U+1),Hu file false l' X.data.toList,by rw[HT2.out],by rw[List.length_drop,←HM.out];have:=HLS.out;omega,Ti,HB4,by show _=_;rw[HW.out,agD file p M l' [] (by rw[←HU.out,←HM.out];exact hlt),←HU.out,hxd.out];rfl⟩
    case measure=>show Y.size<Z.size;rw[hzs];exact HYS.out
   ·have HRV:Hid ((if upto p Z.data.toList<Z.size then(upto p Z.data.toList:Int)else -1)= -1):=by
     show _=_
     rw[Am.out,←HU.out,if_neg (by omega)]
    have hkm:k≤1000000:=by omega
    have HE:Hid (S=Hu file true l' Z.data.toList):=by
     show _=_
     rw[HW.out,agC file p M l' [] (by rw[←HU.out,←HM.out];exact hlt),Am.out]
     rfl
    go_wp2_with fail
    refine(YN.out Z _ (by omega)).mono ?_
    rintro e w3 ⟨rfl,hb3⟩
    rw[HRV.out]
    go_wp2_with fail
    refine(abK file true w.heap.size _ l' Z _ (aP HO.out hb3) (Nat.le_trans HB.out.size hb3.size) (by rw[←HK.out];exact hkm) (by omega)).mono ?_
    rintro e w4 ⟨v4,rfl,hown4,hb4⟩
    have HX:Hid (lu w.heap.size w S (.returned v4) w4):=⟨v4,rfl,by rw[HE.out];exact hown4,(bel HB.out hb3).trans (hb4.mono (Nat.le_refl _))⟩
    clear hown4 hb4 hb3
    go_wp2
    go_ret
    exact HX.out
end Go.Proofs.YtgamccijegollaaGreatDoor.WS
namespace Go.Proofs.YtgamccijegollaaGreatDoor.yw
open Go.RowKit Base L6 Dp cO acA acv acD WS aco wS
theorem dl (s:ByteArray):s.data.toList.length=s.size:=Array.length_toList
theorem ext_left (s:ByteArray) (k:Nat):(s.extract 0 k).data.toList=s.data.toList.take k:=by
 rw[ByteArray.data_extract]
 simp[Array.toList_extract,List.extract_eq_take_drop]
theorem ext_right (s:ByteArray) (k:Nat):(s.extract k s.size).data.toList=s.data.toList.drop k:=by
 rw[ByteArray.data_extract]
 simp only[Array.toList_extract,List.extract_eq_take_drop]
 rw[List.take_of_length_le]
 rw[List.length_drop,dl]
 omega
theorem RU (s:ByteArray) (k:Nat):s.extract 0 k=strOf (s.data.toList.take k):=by rw[←ext_left,aG]
theorem l7 (s:ByteArray) (k:Nat):s.extract k s.size=strOf (s.data.toList.drop k):=by rw[←ext_right,aG]
theorem ix (sp:Bool) (c:UInt8):decide (0≤Lib.indexByte (chs sp) c)=gB sp c:=by
 have H:∀(sp:Bool) (n:Fin 256),decide (0≤Lib.indexByte (chs sp) (UInt8.ofNat n.val))=gB sp (UInt8.ofNat n.val):=by decide+kernel
 have:=H sp ⟨c.toNat,c.toNat_lt⟩
 simpa using this
theorem jr (s:ByteArray) (w:World):Calls Tryz.prog 120 #[.string s] w fun e w'=>e=.returned (.string (cs (special s.data.toList)))∧w'=w:=by
 have hsp:=fun w=>jv s w
 generalize special s.data.toList=b at hsp⊢
 have HS:=hid hsp
 clear hsp
 cases b with
 |true=>
  go_enter Tryz.func120,Tryz.ntmps120
  go_wp2_with fail
  refine(HS.out _).mono ?_
  rintro e w2 ⟨rfl,rfl⟩
  go_wp2
  go_ret
  exact⟨rfl,rfl⟩
 |false=>
  go_enter Tryz.func120,Tryz.ntmps120
  go_wp2_with fail
  refine(HS.out _).mono ?_
  rintro e w2 ⟨rfl,rfl⟩
  go_wp2
  go_ret
  exact⟨rfl,rfl⟩
theorem isSl_at (sp:Bool) (s:List UInt8) (k:Nat) (h:k<s.length):rU sp s k=gB sp s[k]:=by
 unfold rU
 rw[List.getElem?_eq_getElem h]
theorem yM (sp:Bool) (s:List UInt8) (k:Nat) (h:¬k<s.length):rU sp s k=false:=by
 unfold rU
 rw[List.getElem?_eq_none (by omega)]
theorem lJ (sc s:ByteArray) (k:Nat) (w:World) (hk:k≤1048576):Calls Tryz.prog 213 #[.string sc,.string s,.int .i64 (k:Int)] w fun e w'=>e=.returned (.bool (rU (special sc.data.toList) s.data.toList k))∧Below w.heap.size w w':=by
 have hsl:=fun w=>jr sc w
 generalize special sc.data.toList=b at hsl⊢
 have HS:=hid hsl
 clear hsl
 by_cases h:k<s.size
 ·obtain ⟨c,hc⟩:∃c,s[k]=c:=⟨_,rfl⟩
  have hV:rU b s.data.toList k=gB b c:=by
   rw[isSl_at b _ k (by rw[dl];exact h)]
   exact congrArg (gB b) hc
  have hx:=fun w=>Tryz.strings_IndexByte (cs b) (c.toNat:Int) w
  have hi:=ix b c
  have e:(cs b).data.toList=chs b:=rfl
  have e2:((c.toNat:Int)).toNat.toUInt8=c:=by simp
  rw[e,e2]at hx
  rw[hV,←hi]
  obtain⟨z,hz⟩:∃z,z=Lib.indexByte (chs b) c:=⟨_,rfl⟩
  rw[←hz]at hx⊢
  have HX:=hid hx
  have hkI:(k:Int)<(s.size:Int):=by omega
  clear hx hi e e2 hV hz
  go_enter Tryz.func213,Tryz.ntmps213
  go_upto_region 1 with(fail)
  refine aV (by kernel_rfl) [is (.int .i64 (k:Int)),is (.string s),is (.int .i64 (s.size:Int)),is (.bool true),is (.bool true),is (.string sc),is (.string (cs b)),is (.string s),is (.int .i64 (k:Int)),is (.int .u8 (c.toNat:Int)),is (.int .i64 z),is (.bool (decide (0≤z))),is (.bool (decide (0≤z))),is (.bool (decide (0≤z)))] [[],[],[1],[0,2],[3],[4],[4,5],[4],[4],[4,7,8],[4,6,9],[4,10],[4,11],[12]] (by kernel_rfl) ?_ ?_
  ·refine ⟨?_,?_,?_,?_,?_,?_,?_,?_,?_,?_,?_,?_,?_,?_,trivial⟩
   all_goals(intro t wq hbq hh K hK;simp only[filled,upd,Have,is,any,row,pick,Act.put,List.setIfInBounds_toArray,List.set_cons_zero,List.set_cons_succ,Nat.reduceAdd,Nat.reduceEqDiff,reduceIte,List.tail_cons,List.headD_cons]at hh hK⊢)
   iterate 3
    ·try simp only[hh]at hK⊢
     clear hh
     go_simp
     exact hK _ _ blr rfl
   ·have e0:=hh.1
    have e2:=hh.2.1
    clear hh
    simp only[e0,e2]at hK⊢
    go_simp
    first|exact hK _ _ blr rfl|exact hK _ _ blr (iC (by omega) (by omega))
   iterate 2
    ·try simp only[hh]at hK⊢
     clear hh
     go_simp
     exact hK _ _ blr rfl
   ·have e4:=hh.1
    have e5:=hh.2.1
    clear hh
    simp only[e4,e5]at hK⊢
    go_simp
    refine(HS.out _).mono ?_
    rintro e w2 ⟨rfl,hw2⟩
    subst hw2
    exact hK _ _ blr rfl
   iterate 3
    ·try simp only[hh]at hK⊢
     clear hh
     go_simp
     exact hK _ _ blr rfl
   ·have e4:=hh.1
    have e6:=hh.2.1
    have e9:=hh.2.2.1
    clear hh
    simp only[e4,e6,e9]at hK⊢
    go_simp
    refine(HX.out _).mono ?_
    rintro e w2 ⟨rfl,hw2⟩
    subst hw2
    exact hK _ _ blr rfl
   ·have e4:=hh.1
    have e10:=hh.2.1
    clear hh
    simp only[e4,e10]at hK⊢
    go_simp
    first|exact hK _ _ blr rfl|exact hK _ _ blr (iC (by omega) (by omega))
   iterate 2
    ·try simp only[hh]at hK⊢
     clear hh
     go_simp
     exact hK _ _ blr rfl
  intro t wq hbq hh
  have f13:=aB hh 13 (by decide)
  simp only[pick]at f13
  replace f13:t 13=(.bool (decide (0≤z))):=f13
  clear hh
  simp only[filled,upd,Have,is,any,row,pick,Act.put,List.setIfInBounds_toArray,List.set_cons_zero,List.set_cons_succ,Nat.reduceAdd,Nat.reduceEqDiff,reduceIte]
  simp only[f13]
  go_wp2
  go_ret
  exact⟨rfl,hbq⟩
 have hV:rU b s.data.toList k=false:=yM b _ k (by rw[dl];exact h)
 have hkI:¬(k:Int)<(s.size:Int):=by omega
 rw[hV]
 clear hV h
 go_enter Tryz.func213,Tryz.ntmps213
 go_upto_region 1 with(fail)
 refine aV (by kernel_rfl) [is (.int .i64 (k:Int)),is (.string s),is (.int .i64 (s.size:Int)),is (.bool false),is (.bool false),is (undef),is (undef),is (undef),is (undef),is (undef),is (undef),is (undef),is (.bool false),is (.bool false)] [[],[],[1],[0,2],[3],[4],[4,5],[4],[4],[4,7,8],[4,6,9],[4,10],[4,11],[12]] (by kernel_rfl) ?_ ?_
 ·refine ⟨?_,?_,?_,?_,?_,?_,?_,?_,?_,?_,?_,?_,?_,?_,trivial⟩
  all_goals(intro t wq hbq hh K hK;simp only[filled,upd,Have,is,any,row,pick,Act.put,List.setIfInBounds_toArray,List.set_cons_zero,List.set_cons_succ,Nat.reduceAdd,Nat.reduceEqDiff,reduceIte,List.tail_cons,List.headD_cons]at hh hK⊢)
  iterate 3
   ·try simp only[hh]at hK⊢
    clear hh
    go_simp
    exact hK _ _ blr rfl
  ·have e0:=hh.1
   have e2:=hh.2.1
   clear hh
   simp only[e0,e2]at hK⊢
   go_simp
   first|exact hK _ _ blr rfl|exact hK _ _ blr (iC (by omega) (by omega))
  iterate 7
   ·try simp only[hh]at hK⊢
    clear hh
    go_simp
    exact hK _ _ blr rfl
  ·have e4:=hh.1
   have e10:=hh.2.1
   clear hh
   simp only[e4,e10]at hK⊢
   go_simp
   first|exact hK _ _ blr rfl|exact hK _ _ blr (iC (by omega) (by omega))
  iterate 2
   ·try simp only[hh]at hK⊢
    clear hh
    go_simp
    exact hK _ _ blr rfl
 intro t wq hbq hh
 have f13:=aB hh 13 (by decide)
 simp only[pick]at f13
 replace f13:t 13=(.bool false):=f13
 clear hh
 simp only[filled,upd,Have,is,any,row,pick,Act.put,List.setIfInBounds_toArray,List.set_cons_zero,List.set_cons_succ,Nat.reduceAdd,Nat.reduceEqDiff,reduceIte]
 simp only[f13]
 go_wp2
 go_ret
 exact⟨rfl,hbq⟩
theorem Ws (sc s:ByteArray) (w:World) (hs:s.size≤1073741824):Calls Tryz.prog 224 #[.string sc,.string s] w fun e w'=>e=.returned (.tuple #[.string (strOf (s.data.toList.take (upto (special sc.data.toList) s.data.toList))),.string (strOf (s.data.toList.drop (upto (special sc.data.toList) s.data.toList)))])∧Below w.heap.size w w':=by
 have hsl:=fun w=>jr sc w
 generalize special sc.data.toList=b at hsl⊢
 have hx:=fun w=>ac0 b s w hs
 obtain⟨k,hk⟩:∃k,k=upto b s.data.toList:=⟨_,rfl⟩
 have hle:=YH b s.data.toList
 rw[dl]at hle
 rw[←hk]at hx hle⊢
 obtain⟨P,hP⟩:∃P,P=strOf (s.data.toList.take k):=⟨_,rfl⟩
 obtain⟨R,hR⟩:∃P,P=strOf (s.data.toList.drop k):=⟨_,rfl⟩
 rw[←hP,←hR]
 have h1:s.extract 0 k=P:=by rw[RU,hP]
 have h2:s.extract k s.size=R:=by rw[l7,hR]
 have HS:=hid hsl
 by_cases h:k<s.size
 ·rw [if_pos h]at hx
  have HX:=hid hx
  have hk0:¬((k:Int)<0):=by omega
  clear hsl hx hk hP hR
  go_enter Tryz.func224,Tryz.ntmps224
  go_wp2_with fail
  refine(HS.out _).mono ?_
  rintro e w2 ⟨rfl,rfl⟩
  go_wp2_with fail
  refine(HX.out _).mono ?_
  rintro e w3 ⟨rfl,hb3⟩
  have hkI:(k:Int)≤(s.size:Int):=by omega
  have hkn:(0:Int)≤(k:Int):=by omega
  go_upto_region 4 with(fail)
  refine aV (by kernel_rfl) [is (.string s),is (.int .i64 (k:Int)),is (.string P),is (.string s),is (.int .i64 (k:Int)),is (.string R),is (.string P),is (.string R)] [[],[],[0,1],[],[],[3,4],[2],[5]] (by kernel_rfl) ?_ ?_
  ·refine ⟨?_,?_,?_,?_,?_,?_,?_,?_,trivial⟩
   all_goals(intro t wq hbq hh K hK;simp only[filled,upd,Have,is,any,row,pick,Act.put,List.setIfInBounds_toArray,List.set_cons_zero,List.set_cons_succ,Nat.reduceAdd,Nat.reduceEqDiff,reduceIte,List.tail_cons,List.headD_cons]at hh hK⊢)
   iterate 2
    ·clear hh
     go_simp
     exact hK _ _ blr rfl
   ·have e0:=hh.1
    have e1:=hh.2.1
    clear hh
    simp only[e0,e1]at hK⊢
    have hx:=h1
    go_simp
    exact hK _ _ blr rfl
   iterate 2
    ·clear hh
     go_simp
     exact hK _ _ blr rfl
   ·have e3:=hh.1
    have e4:=hh.2.1
    clear hh
    simp only[e3,e4]at hK⊢
    have hx:=h2
    go_simp
    exact hK _ _ blr rfl
   iterate 2
    ·try simp only[hh]at hK⊢
     clear hh
     go_simp
     exact hK _ _ blr rfl
  intro t wq hbq hh
  have f6:=aB hh 6 (by decide)
  simp only[pick]at f6
  replace f6:t 6=(.string P):=f6
  have f7:=aB hh 7 (by decide)
  simp only[pick]at f7
  replace f7:t 7=(.string R):=f7
  clear hh
  simp only[filled,upd,Have,is,any,row,pick,Act.put,List.setIfInBounds_toArray,List.set_cons_zero,List.set_cons_succ,Nat.reduceAdd,Nat.reduceEqDiff,reduceIte]
  simp only[f6,f7]
  go_wp2
  go_ret2
  exact⟨rfl,bel hb3 hbq⟩
 rw[if_neg h]at hx
 have HX:=hid hx
 have hke:k=s.size:=by omega
 have h3:P=s:=by rw[hP,hke,List.take_of_length_le (by rw[dl];exact Nat.le_refl _),aG]
 have h4:R=⟨#[]⟩:=by rw[hR,hke,List.drop_of_length_le (by rw[dl];exact Nat.le_refl _)];rfl
 rw[h3,h4]
 clear hsl hx hk hP hR h1 h2 h3 h4 h hke hle
 go_enter Tryz.func224,Tryz.ntmps224
 go_wp2_with fail
 refine(HS.out _).mono ?_
 rintro e w2 ⟨rfl,rfl⟩
 go_wp2_with fail
 refine(HX.out _).mono ?_
 rintro e w3 ⟨rfl,hb3⟩
 go_wp2
 go_ret2
 exact⟨rfl,hb3⟩
theorem walk_any (sc:ByteArray) (A:Option Addr) (n cap:Nat) (l:List ByteArray) (s:ByteArray) (w:World) (hR:aY w A n (l.map Value.string)) (hnc:n≤cap) (hcm:cap≤maxLen) (hm:n+s.size≤900000):
  Calls Tryz.prog 220 #[.string sc,.slice A n cap,.string s] w (lu w.heap.size w (walk sc.data.toList l s.data.toList)):=by
 have hq:=ag9 sc
 obtain⟨b,hb⟩:∃b,b=decide (sc.data.toList=FILE):=⟨_,rfl⟩
 rw[←hb]at hq
 have hsp:=fun w=>jv sc w
 obtain⟨c,hc⟩:∃c,c=special sc.data.toList:=⟨_,rfl⟩
 rw[←hc]at hsp
 have HS:=hid hsp
 have hV:walk sc.data.toList l s.data.toList=wb b c l [] s.data.toList:=by unfold walk;rw[←hb,←hc]
 rw[hV]
 have HW:=hid (WS.walk_any b c A n cap l s w hR hnc hcm hm)
 generalize wb b c l [] s.data.toList=L at HW⊢
 clear hb hc hsp hV hR
 go_enter Tryz.func220,Tryz.ntmps220
 go_wp2_with fail
 refine(HS.out _).mono ?_
 rintro e w2 ⟨rfl,rfl⟩
 go_wp2_with fail
 refine(HW.out).mono ?_
 rintro e w3 ⟨v,rfl,ho,hb3⟩
 have HO:=hid ho
 clear ho
 go_wp2
 go_ret
 exact⟨v,rfl,HO.out,hb3⟩
where
 ag9 (sc:ByteArray):(sc.toList==[102,105,108,101])=decide (sc.data.toList=FILE):=by
  rw[Lib.toList_data,Bool.eq_iff_iff]
  exact⟨fun h=>decide_eq_true (beq_iff_eq.1 h),fun h=>beq_iff_eq.2 (of_decide_eq_true h)⟩
theorem AA (sc s:ByteArray) (w:World) (hs:s.size≤900000):Calls Tryz.prog 223 #[.string sc,.string s] w (lu w.heap.size w (rooted sc.data.toList s.data.toList)):=by
 have hsp:=fun w=>jv sc w
 have hsl:=fun w=>lJ sc s 0 w (by omega)
 obtain⟨c,hc⟩:∃c,c=special sc.data.toList:=⟨_,rfl⟩
 rw[←hc]at hsp hsl
 obtain⟨b,hb⟩:∃b,b=rU c s.data.toList 0:=⟨_,rfl⟩
 rw[←hb]at hsl
 have wC:=hid hsp
 have HSL:=hid hsl
 obtain⟨L,hL⟩:∃L,L=rooted sc.data.toList s.data.toList:=⟨_,rfl⟩
 rw[←hL]
 unfold rooted at hL
 rw[←hc,←hb]at hL
 have OL:=hid (fun(s:ByteArray) (w:World) (h:s.size≤900000)=>walk_any sc none 0 0 [] s w (aY.nil _) (Nat.le_refl _) (Nat.zero_le _) (by omega))
 by_cases h0:s.data.toList=[]
 ·have q0:(s.toList==[])=true:=by rw[Lib.toList_data,h0];rfl
  have q1:s.toList=[]:=by rw[Lib.toList_data,h0]
  have hb0:b=false:=by rw[hb,h0];rfl
  subst hb0
  cases c with
  |false=>
   have hL2:L=[]:=by rw[hL,if_pos ⟨h0,rfl⟩]
   clear hsp hsl hb hL hc h0
   go_enter Tryz.func223,Tryz.ntmps223
   go_wp2_with fail
   refine(wC.out _).mono ?_
   rintro e w2 ⟨rfl,rfl⟩
   go_wp2
   go_ret
   exact⟨_,rfl,by rw[hL2];exact World.ownsRow_nil _ _ _ _,Below.refl _ _⟩
  |true=>
   have HL:Hid (L=walk sc.data.toList [] s.data.toList):=by show _=_;rw[hL,if_neg (by simp),if_neg (by simp)]
   clear hsp hsl hb hL hc h0
   go_enter Tryz.func223,Tryz.ntmps223
   go_wp2_with fail
   refine(wC.out _).mono ?_
   rintro e w2 ⟨rfl,rfl⟩
   go_wp2_with fail
   refine(HSL.out _).mono ?_
   rintro e w2 ⟨rfl,hb2⟩
   go_wp2_with fail
   refine(OL.out s _ hs).mono ?_
   rintro e w3 ⟨v,rfl,ho,hb3⟩
   rw[←HL.out]at ho
   have HO:=hid ho
   clear ho
   go_wp2
   go_ret
   exact⟨v,rfl,ay HO.out hb2.size,bel hb2 hb3⟩
 have q0:(s.toList==[])=false:=by rw[Lib.toList_data,beq_eq_false_iff_ne];exact h0
 have q1:¬s.toList=[]:=by rw[Lib.toList_data];exact h0
 have q2:s.toList.isEmpty=false:=by rw[Lib.toList_data];simpa using h0
 have hlen:1≤s.size:=by
  rw[←dl]
  cases e:s.data.toList with
  |nil=>exact absurd e h0
  |cons c r=>simp
 have h1i:(1:Int)≤(s.size:Int):=by omega
 obtain⟨X,hX⟩:∃X,X=s.extract 1 s.size:=⟨_,rfl⟩
 have NQ:X.data.toList=s.data.toList.drop 1:=by rw[hX,ext_right]
 have hXs:X.size≤900000:=by rw[hX,ByteArray.size_extract];omega
 have HL:Hid (L=walk sc.data.toList [] (if b=true then X.data.toList else s.data.toList)):=by show _=_;rw[hL,if_neg (fun h=>h0 h.1),NQ]
 have HX:=hid hX
 clear hsp hsl hb hL hc h0 hX NQ
 cases b with
 |true=>
  go_enter Tryz.func223,Tryz.ntmps223
  go_wp2_with fail
  refine(HSL.out _).mono ?_
  rintro e w2 ⟨rfl,hb2⟩
  go_wp2_with fail
  rw[←HX.out]
  refine(OL.out X _ hXs).mono ?_
  rintro e w3 ⟨v,rfl,ho,hb3⟩
  have HO:Hid (w3.ownsRow w2.heap.size 9 1 v L.length (L.map Value.string)):=by show World.ownsRow _ _ _ _ _ _ _;rw[HL.out];first|(rw[if_pos rfl];exact ho)|(rw[if_pos trivial];exact ho)
  clear ho
  go_wp2
  go_ret
  exact⟨v,rfl,ay HO.out hb2.size,bel hb2 hb3⟩
 |false=>
  go_enter Tryz.func223,Tryz.ntmps223
  go_wp2_with fail
  refine(HSL.out _).mono ?_
  rintro e w2 ⟨rfl,hb2⟩
  go_wp2_with fail
  refine(OL.out s _ hs).mono ?_
  rintro e w3 ⟨v,rfl,ho,hb3⟩
  have HO:Hid (w3.ownsRow w2.heap.size 9 1 v L.length (L.map Value.string)):=by show World.ownsRow _ _ _ _ _ _ _;rw[HL.out];first|(rw[if_neg (by simp)];exact ho)|(simpa using ho)
  clear ho
  go_wp2
  go_ret
  exact⟨v,rfl,ay HO.out hb2.size,bel hb2 hb3⟩
end Go.Proofs.YtgamccijegollaaGreatDoor.yw
namespace Go.Proofs.YtgamccijegollaaGreatDoor.tN
open Go.RowKit Base Dp dI cO aco wS yw
theorem wR:∀L:List UInt8,nV L=none↔∀c ∈ L,c≠64
 |[]=>by simp[nV]
 | c ::L=>by
  have ih:=wR L
  unfold nV
  cases h:nV L with
  |some p=>
   constructor
   ·intro e;cases e
   ·intro e
    rw[h]at ih
    have:=ih.2 fun d hd=>e d (by simp[hd])
    cases this
  | none=>
   rw[h]at ih
   have hno:=ih.1 rfl
   by_cases hc:c=64
   ·rw[if_pos hc]
    constructor
    ·intro e;cases e
    ·intro e;exact absurd hc (e c (by simp))
   ·rw[if_neg hc]
    constructor
    ·intro _ d hd
     rcases List.mem_cons.1 hd with rfl|hd
     ·exact hc
     ·exact hno d hd
    ·intro _;rfl
theorem GL (a r:List UInt8) (h:∀c ∈ r,c≠64):nV (a++64::r)=some (a,r):=by
 induction a with
 |nil=>
  show nV (64::r)=_
  unfold nV
  rw[(wR r).2 h]
  rfl
 |cons c a ih=>
  show nV (c::(a++64::r))=_
  unfold nV
  rw[ih]
theorem Xh (s:ByteArray) (j:Nat) (h:j<s.data.toList.length):s.data[j]! =s.data.toList[j]:=by
 rw[getElem!_pos s.data j (by simpa using h)]
 simp
theorem ahT (s:ByteArray):(Lib.lastIndexByte s 64= -1∧nV s.data.toList=none)∨∃k:Nat,k<s.size∧Lib.lastIndexByte s 64=(k:Int)∧nV s.data.toList=some (s.data.toList.take k,s.data.toList.drop (k+1)):=by
 rcases Lib.lastIdx_spec s 64 s.size with⟨h1,h2⟩|⟨k,hk,h1,h2,h3⟩
 ·refine .inl ⟨h1,(wR _).2 fun c hc=>?_⟩
  obtain⟨j,hj,rfl⟩:=List.getElem_of_mem hc
  have:=h2 j (by rw[←dl];exact hj)
  rw[Xh s j hj]at this
  intro e
  rw[e]at this
  exact this rfl
 refine .inr ⟨k,hk,h1,?_⟩
 have hkl:k<s.data.toList.length:=by rw[dl];exact hk
 rw[Xh s k hkl]at h2
 have h64:s.data.toList[k]=64:=UInt8.toNat_inj.1 (by show _=64;omega)
 have hs:s.data.toList=s.data.toList.take k++64::s.data.toList.drop (k+1):=by
  rw[←h64,←List.drop_eq_getElem_cons hkl,List.take_append_drop]
 conv=>lhs;rw[hs]
 refine GL _ _ fun c hc=>?_
 obtain⟨j,hj,rfl⟩:=List.getElem_of_mem hc
 rw[List.length_drop]at hj
 rw[List.getElem_drop]
 have:=h3 (k+1+j) (by omega) (by rw[←dl];omega)
 rw[Xh s _ (by omega)]at this
 intro e
 rw[e]at this
 exact this rfl
def vF (s:List UInt8) (k:Nat) (i:Bool):List UInt8×List UInt8×Bool:=(s.take k++(hap i (s.drop k)).1,(hap i (s.drop k)).2.1,(hap i (s.drop k)).2.2)
theorem adJ (s:List UInt8):vF s 0 false=hap false s:=by simp[vF]
theorem ahI (s:List UInt8) (i:Bool):vF s s.length i=(s,[],false):=by
 unfold vF
 rw[List.drop_length,List.take_length]
 simp[hap]
theorem adI (s:List UInt8) (k:Nat) (h:k<s.length) (hc:s[k]=58):vF s k false=(s.take k,s.drop (k+1),true):=by
 unfold vF
 rw[List.drop_eq_getElem_cons h,hc,hap,if_pos ⟨rfl,rfl⟩]
 simp
theorem IU (s:List UInt8) (k:Nat) (i:Bool) (h:k<s.length) (hc:¬(s[k]=58∧i=false)):vF s k i=vF s (k+1) (if s[k]=91 then true else if s[k]=93 then false else i):=by
 unfold vF
 rw[List.drop_eq_getElem_cons h,hap,if_neg hc,List.take_succ_eq_append_getElem h]
 generalize (if s[k]=91 then true else if s[k]=93 then false else i)=b
 rw[List.append_assoc]
 rfl
theorem EJ:∀(L:List UInt8) (i:Bool),(hap i L).1.length≤L.length∧(hap i L).2.1.length≤L.length
 |[],i=>by simp[hap]
 |c::L,i=>by
  unfold hap
  split
  ·simp
  ·have:=EJ L (if c=91 then true else if c=93 then false else i)
   generalize (if c=91 then true else if c=93 then false else i)=b at this⊢
   simp only[List.length_cons]
   omega
theorem Lj (d:List UInt8) (c:UInt8):FH (d++[c])=min (FH d*10+(c.toNat - 48)) 65536:=by simp[FH]
theorem asu (c:UInt8) (h:Fz c=true):48≤c.toNat∧c.toNat≤57:=by
 unfold Fz digit at h
 have:=of_decide_eq_true h
 omega
def PrtV (o:Option Int) (e:Ending):Prop:=match o with
 |some z=>e=.returned (.tuple #[.int .i64 z,.bool true])
 |none=>∃z,e=.returned (.tuple #[.int .i64 z,.bool false])
theorem ail (au:List UInt8):prt au []=some (-1):=rfl
theorem prt_bad (au d:List UInt8) (k:Nat) (h:k<d.length) (hd:Fz d[k]=false):prt au d=none:=by
 unfold prt
 rw[if_neg (by rintro rfl;simp at h),if_neg]
 intro e
 have:=List.all_eq_true.1 e d[k] (List.getElem_mem h)
 rw[hd]at this
 cases this
theorem abb (au d:List UInt8) (h:d≠[]) (ha:d.all Fz=true):prt au d=if (FH d:Int)=portOf au then some (-1)else if FH d≤65535 then some (FH d:Int)else none:=by
 unfold prt
 rw[if_neg h,if_pos ha]
theorem TN (d:List UInt8) (k:Nat) (h:k<d.length):(d.take (k+1)).all Fz=((d.take k).all Fz&&Fz d[k]):=by
 rw[List.take_succ_eq_append_getElem h,List.all_append]
 simp
theorem Q8 (d:List UInt8) (k:Nat) (h:k<d.length):FH (d.take (k+1))=min (FH (d.take k)*10+(d[k].toNat - 48)) 65536:=by
 rw[List.take_succ_eq_append_getElem h,Lj]
def oC (s:List UInt8) (k:Nat):Bool:=match s[k]? with
 |none=>true
 |some c=>letter c.toNat||(decide (k≠0)&&NT c)
theorem Vs (s:List UInt8):lI s=(decide (s≠[])&&(List.range s.length).all (oC s)):=by
 cases s with
 |nil=>rfl
 | cons c r=>
  unfold lI
  rw[List.length_cons,List.range_succ_eq_map,List.all_cons,List.all_map]
  have h0:oC (c::r) 0=letter c.toNat:=by unfold oC;simp
  rw[h0]
  simp only[ne_eq,reduceCtorEq,not_false_eq_true,decide_true,Bool.true_and]
  congr 1
  have hr:∀k,(oC (c::r) ∘ Nat.succ) k=match r[k]? with
    |none=>true
    |some d=>NT d:=by
   intro k
   show oC (c::r) (k+1)=_
   unfold oC
   rw[List.getElem?_cons_succ]
   cases r[k]? with
   |none=>rfl
   |some d=>
    simp only[ne_eq,Nat.add_eq_zero_iff,Nat.one_ne_zero,and_false,not_false_eq_true,decide_true,Bool.true_and]
    unfold NT
    cases letter d.toNat<;>simp
  rw[Bool.eq_iff_iff,List.all_eq_true,List.all_eq_true]
  constructor
  ·intro h k hk
   rw[hr k,List.getElem?_eq_getElem (by simpa using hk)]
   exact h _ (List.getElem_mem _)
  intro h d hd
  obtain⟨k,hk,rfl⟩:=List.getElem_of_mem hd
  have:=h k (by simpa using hk)
  rw[hr k,List.getElem?_eq_getElem hk]at this
  exact this
theorem ame (s:List UInt8) (k:Nat) (h:k<s.length) (hb:oC s k=false):lI s=false:=by
 rw[Vs]
 have:(List.range s.length).all (oC s)=false:=by
  cases e:(List.range s.length).all (oC s)with
  |false=>rfl
  |true=>
   have:=List.all_eq_true.1 e k (by simpa using h)
   rw[hb]at this
   cases this
 rw[this,Bool.and_false]
theorem ahS (s:List UInt8) (h:∀k,k<s.length→oC s k=true):lI s=decide (s≠[]):=by
 rw[Vs,List.all_eq_true.2 fun k hk=>h k (by simpa using hk),Bool.and_true]
theorem anu (s:List UInt8) (k:Nat) (h:k<s.length):oC s k=(letter s[k].toNat||(decide (k≠0)&&NT s[k])):=by
 unfold oC
 rw[List.getElem?_eq_getElem h]
end Go.Proofs.YtgamccijegollaaGreatDoor.tN
