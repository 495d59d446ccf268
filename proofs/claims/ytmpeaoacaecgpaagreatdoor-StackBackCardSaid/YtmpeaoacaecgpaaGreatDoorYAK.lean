/- Texts that belong together: mW, Kq, ES, WX, Cb, Ut, iH, MaiA, ajY, TL, TK, Regg, Fq, agZ, PthK. -/
import Derived.Test.YtmpeaoacaecgpaaGreatDoorYAJ
import Derived.Test.YtmpeaoacaecgpaaGreatDoorYAA
import Derived.Test.YtmpeaoacaecgpaaGreatDoorYAI
import Derived.BigQuiet
import Derived.Deep.QuietTactic
import Derived.Deep.WholeRow
import Derived.Test.YtmpeaoacaecgpaaGreatDoorYAE
import Derived.Lib.SliceRun
import Derived.Conc.LoneCalls
import Derived.Conc.LoneSelectN
import Derived.KernelRfl
import Derived.WalkSmall
import Derived.Test.YtmpeaoacaecgpaaGreatDoorYAH
import Derived.Test.YtmpeaoacaecgpaaGreatDoorShelf
import Derived.Laws.RangeAny
import Derived.Laws.Runes
import Derived.Deep.LoopGhost
import Derived.WalkMore
set_option linter.unusedSimpArgs false
set_option linter.unusedVariables false
set_option maxRecDepth 100000
set_option maxHeartbeats 64000000
namespace Go.Proofs.YtmpeaoacaecgpaaGreatDoor.mW
open Go.RowKit Base Base2 PrsP
def cells (u:U) (p:Value):Array Value:=#[.string (strOf u.au),.string (strOf u.usr),.string (strOf u.pwd),.string (strOf u.hst),.bool u.hh,.int .i64 u.port,.bool u.opq,.string (strOf u.txt),p,.bool u.hq,.bool u.hf,.string (strOf u.dY),.string (strOf u.fB)]
def UB (w:World) (g:Nat) (u:U) (p:Value):Prop:=w.heap[g]?=some (.cells (cells u p) 25 (0,0))
variable {w w':World} {g:Nat} {u:U} {p:Value}
theorem UB.lt (h:UB w g u p):g<w.heap.size:=(Array.getElem?_eq_some_iff.1 h).1
theorem UB.below (h:UB w g u p) (hb:Below w.heap.size w w'):UB w' g u p:=(hb.block g h.lt).trans h
theorem UB.facts (h:UB w g u p):w.cell? ⟨g,0,none⟩=some (.string (strOf u.au))∧w.cell? ⟨g,1,none⟩=some (.string (strOf u.usr))∧w.cell? ⟨g,2,none⟩=some (.string (strOf u.pwd))∧w.cell? ⟨g,3,none⟩=some (.string (strOf u.hst))∧w.cell? ⟨g,4,none⟩=some (.bool u.hh)∧w.cell? ⟨g,5,none⟩=some (.int .i64 u.port)∧w.cell? ⟨g,6,none⟩=some (.bool u.opq)∧w.cell? ⟨g,7,none⟩=some (.string (strOf u.txt))∧w.cell? ⟨g,8,none⟩=some p∧w.cell? ⟨g,9,none⟩=some (.bool u.hq)∧w.cell? ⟨g,10,none⟩=some (.bool u.hf)∧w.cell? ⟨g,11,none⟩=some (.string (strOf u.dY))∧w.cell? ⟨g,12,none⟩=some (.string (strOf u.fB)):=
 ⟨cell_of_row w g 0 _ _ _ h,cell_of_row w g 1 _ _ _ h,cell_of_row w g 2 _ _ _ h,cell_of_row w g 3 _ _ _ h,cell_of_row w g 4 _ _ _ h,cell_of_row w g 5 _ _ _ h,cell_of_row w g 6 _ _ _ h,cell_of_row w g 7 _ _ _ h,cell_of_row w g 8 _ _ _ h,cell_of_row w g 9 _ _ _ h,cell_of_row w g 10 _ _ _ h,cell_of_row w g 11 _ _ _ h,cell_of_row w g 12 _ _ _ h⟩
theorem UB.thaw (h:UB w g u p):w.frozen? ⟨g,0,none⟩=false∧w.frozen? ⟨g,1,none⟩=false∧w.frozen? ⟨g,2,none⟩=false∧w.frozen? ⟨g,3,none⟩=false∧w.frozen? ⟨g,4,none⟩=false∧w.frozen? ⟨g,5,none⟩=false∧w.frozen? ⟨g,6,none⟩=false∧w.frozen? ⟨g,7,none⟩=false∧w.frozen? ⟨g,8,none⟩=false∧w.frozen? ⟨g,9,none⟩=false∧w.frozen? ⟨g,10,none⟩=false∧w.frozen? ⟨g,11,none⟩=false∧w.frozen? ⟨g,12,none⟩=false:=
 ⟨frozen_of_row w g 0 _ _ h,frozen_of_row w g 1 _ _ h,frozen_of_row w g 2 _ _ h,frozen_of_row w g 3 _ _ h,frozen_of_row w g 4 _ _ h,frozen_of_row w g 5 _ _ h,frozen_of_row w g 6 _ _ h,frozen_of_row w g 7 _ _ h,frozen_of_row w g 8 _ _ h,frozen_of_row w g 9 _ _ h,frozen_of_row w g 10 _ _ h,frozen_of_row w g 11 _ _ h,frozen_of_row w g 12 _ _ h⟩
theorem UB.usr (h:UB w g u p) (s:List UInt8):UB (w.setCell ⟨g,1,none⟩ (.string (strOf s))) g {u with usr:=s} p:=heap_setCell_same w g 1 _ _ _ h
theorem UB.pwd (h:UB w g u p) (s:List UInt8):UB (w.setCell ⟨g,2,none⟩ (.string (strOf s))) g {u with pwd:=s} p:=heap_setCell_same w g 2 _ _ _ h
theorem UB.hst (h:UB w g u p) (s:List UInt8):UB (w.setCell ⟨g,3,none⟩ (.string (strOf s))) g {u with hst:=s} p:=heap_setCell_same w g 3 _ _ _ h
theorem UB.port (h:UB w g u p) (z:Int):UB (w.setCell ⟨g,5,none⟩ (.int .i64 z)) g {u with port:=z} p:=heap_setCell_same w g 5 _ _ _ h
theorem UB.opq (h:UB w g u p) (b:Bool):UB (w.setCell ⟨g,6,none⟩ (.bool b)) g {u with opq:=b} p:=heap_setCell_same w g 6 _ _ _ h
theorem UB.txt (h:UB w g u p) (s:List UInt8):UB (w.setCell ⟨g,7,none⟩ (.string (strOf s))) g {u with txt:=s} p:=heap_setCell_same w g 7 _ _ _ h
theorem UB.path (h:UB w g u p) (q:Value):UB (w.setCell ⟨g,8,none⟩ q) g u q:=heap_setCell_same w g 8 _ _ _ h
theorem UB.hq (h:UB w g u p) (b:Bool):UB (w.setCell ⟨g,9,none⟩ (.bool b)) g {u with hq:=b} p:=heap_setCell_same w g 9 _ _ _ h
theorem UB.hf (h:UB w g u p) (b:Bool):UB (w.setCell ⟨g,10,none⟩ (.bool b)) g {u with hf:=b} p:=heap_setCell_same w g 10 _ _ _ h
theorem UB.dY (h:UB w g u p) (s:List UInt8):UB (w.setCell ⟨g,11,none⟩ (.string (strOf s))) g {u with dY:=s} p:=heap_setCell_same w g 11 _ _ _ h
theorem UB.fB (h:UB w g u p) (s:List UInt8):UB (w.setCell ⟨g,12,none⟩ (.string (strOf s))) g {u with fB:=s} p:=heap_setCell_same w g 12 _ _ _ h
theorem dR.below {u:U} {A:Option Addr} {n c:Nat} (h:dR w u A n c) (hb:Below w.heap.size w w'):dR w' u A n c:=⟨h.1.below hb,h.2⟩
theorem bW {B:Nat} {v:Value} {u:U} (h:w.ownsRow B 9 1 v u.aO.length (u.aO.map Value.string)):∃A c,v=.slice A u.aO.length c∧dR w u A u.aO.length c:=by
 obtain⟨A,c,e,h1,h2,h3⟩:=aJ h
 exact⟨A,c,e,h3,h1,h2⟩
theorem UB.load (h:UB w g u p):(loadVar 25 ⟨g,0,none⟩).run Tryz.prog w=.ok (.agg (cells u p)) w:=
 run_loadVar_row w g _ _ (cells u p) (0,0) _ h Tryz.underlying25 rfl (by kernel_rfl)
theorem UB.set (h:UB w g u p) {k i:Nat} (x:Value) (hk:g≠k):UB (w.setCell ⟨k,i,none⟩ x) g u p:=by
 unfold UB
 rw[heap_setCell_other _ _ _ _ hk]
 exact h
theorem res2 {fn:Func} {a b:Tmp} (h:fn.results=#[.cell a 25,.tmp b]) (hU:UB w g u p) (ok:Bool) (tmps:Array Value) (h2:tmps.getD a undef=.pointer (some ⟨g,0,none⟩)) (h3:tmps.getD b undef=.bool ok):
  (results fn tmps).run Tryz.prog w=.ok (.tuple #[.agg (cells u p),.bool ok]) w:=by
 have hp':tmps[a]?.getD undef=.pointer (some ⟨g,0,none⟩):=by simpa using h2
 have hq':tmps[b]?.getD undef=.bool ok:=by simpa using h3
 simp[results,h,hp',hq',asAddr,hU.load]
theorem res1 {fn:Func} {a:Tmp} (h:fn.results=#[.cell a 25]) (hU:UB w g u p) (tmps:Array Value) (h2:tmps.getD a undef=.pointer (some ⟨g,0,none⟩)):
  (results fn tmps).run Tryz.prog w=.ok (.agg (cells u p)) w:=
 results_cell_row h tmps w g _ _ _ _ h2 hU Tryz.underlying25 rfl (by kernel_rfl)
theorem UB.row {v:U} {q:Value} (h:UB w g v q) (u:U) (p:Value):UB (w.setRow g (cells u p)) g u p:=setRow_heap w g (cells v q) (cells u p) _ (0,0) h
theorem aC {ops:Array Oper} {rest:List Oper} {o:Oper} {a:Act} {Q:Exit→Act→World→Prop} {v:U} {q:Value} (hU:UB w g v q) (u:U) (A:Option Addr) (n c:Nat) (x y:Operand) (ho:o.op=.store 25 x y) (hgd:o.guard=none)
  (hx:a.eval x=.pointer (some ⟨g,0,none⟩)) (hy:a.eval y=.agg (cells u (.slice A n c)))
  (h:wpList Tryz.prog ops Q rest (a.put o.dst undef) (w.setRow g (cells u (.slice A n c)))):wpList Tryz.prog ops Q (o::rest) a w:=
 wpList_store_row hgd 25 x y ho g (cells u (.slice A n c)) hx hy 25 (cells v q) hU (by kernel_rfl) rfl (by simp[cells,Value.oneCell']) h
theorem laid1 (w:World) (a:Array Value) (T:TypeId):(w.alloc (.cells a T)).heap[w.heap.size]?=some (.cells a T (0,0))∧Below w.heap.size w (w.alloc (.cells a T)):=
 ⟨heap_alloc_new w _,(Below.refl _ _).alloc (Nat.le_refl _) _⟩
theorem laid2 (w:World) (a b:Array Value) (T S:TypeId):((w.alloc (.cells a T)).alloc (.cells b S)).heap[w.heap.size]?=some (.cells a T (0,0))∧((w.alloc (.cells a T)).alloc (.cells b S)).heap[w.heap.size+1]?=some (.cells b S (0,0))∧Below w.heap.size w ((w.alloc (.cells a T)).alloc (.cells b S)):=by
 obtain⟨h1,h2⟩:=laid1 w a T
 have h3:=laid1 (w.alloc (.cells a T)) b S
 have hs:(w.alloc (.cells a T)).heap.size=w.heap.size+1:=by simp
 rw[hs]at h3
 exact⟨(h3.2.block _ (by omega)).trans h1,h3.1,h2.trans (h3.2.mono (by omega))⟩
theorem aml (w:World) (a b c:Array Value) (T S R:TypeId):(((w.alloc (.cells a T)).alloc (.cells b S)).alloc (.cells c R)).heap[w.heap.size]?=some (.cells a T (0,0))∧(((w.alloc (.cells a T)).alloc (.cells b S)).alloc (.cells c R)).heap[w.heap.size+1]?=some (.cells b S (0,0))∧(((w.alloc (.cells a T)).alloc (.cells b S)).alloc (.cells c R)).heap[w.heap.size+1+1]?=some (.cells c R (0,0))∧Below w.heap.size w (((w.alloc (.cells a T)).alloc (.cells b S)).alloc (.cells c R)):=by
 obtain⟨h1,h2,h4⟩:=laid2 w a b T S
 have h3:=laid1 ((w.alloc (.cells a T)).alloc (.cells b S)) c R
 have hs:((w.alloc (.cells a T)).alloc (.cells b S)).heap.size=w.heap.size+1+1:=by simp
 rw[hs]at h3
 exact⟨(h3.2.block _ (by omega)).trans h1,(h3.2.block _ (by omega)).trans h2,h3.1,h4.trans (h3.2.mono (by omega))⟩
end Go.Proofs.YtmpeaoacaecgpaaGreatDoor.mW
namespace Go.Proofs.YtmpeaoacaecgpaaGreatDoor.Kq
open Go.RowKit Base Base2 aZ mW
def OB (w:World) (g:Nat) (s h:ByteArray) (p n:Int):Prop:=w.heap[g]?=some (.cells #[.string s,.string h,.int .i64 p,.int .i64 n] 38 (0,0))
section
variable {w w':World} {g:Nat} {s h:ByteArray} {p n:Int}
theorem OB.lt (x:OB w g s h p n):g<w.heap.size:=(Array.getElem?_eq_some_iff.1 x).1
theorem OB.below (x:OB w g s h p n) (hb:Below w.heap.size w w'):OB w' g s h p n:=(hb.block g x.lt).trans x
end
end Go.Proofs.YtmpeaoacaecgpaaGreatDoor.Kq
namespace Go.Proofs.YtmpeaoacaecgpaaGreatDoor.ES
open Go.RowKit Base
variable {w:World}
theorem fJ {ops:Array Oper} {rest:List Oper} {p:Oper} {a:Act} {Q:Exit→Act→World→Prop} {ty:TypeId} {ad:Addr} {v:Value} (hl:(loadVar ty ad).run Tryz.prog w=.ok v w) (x:Operand) (ho:p.op=.load ty x) (hgd:p.guard=none) (hx:a.eval x=.pointer (some ad))
  (h:wpList Tryz.prog ops Q rest (a.put p.dst v) w):wpList Tryz.prog ops Q (p::rest) a w:=
 wpList_plain hgd fun _ hK=>by
  unfold Oper.wp execOp
  simp only[ho,hx,Instr.loadAt,Instr.sureAddr,Sem.run_bind,Sem.run_pure,Result.andThen_ok,hl]
  exact hK _ _ h
end Go.Proofs.YtmpeaoacaecgpaaGreatDoor.ES
namespace Go.Proofs.YtmpeaoacaecgpaaGreatDoor.WX
open Go.RowKit Base Base2 Base3 Regs uw xH Kq mW ES
theorem new_any (n:Nat) (h1:1≤n) (h2:n≤64) (w:World):Calls Tryz.prog 192 #[.int .i64 (n:Int)] w fun e w'=>∃g,e=.returned (.tuple #[.pointer (some ⟨g,0,none⟩),.int .i64 0])∧IsS 243 353 (uw.nT) w.heap.size g n [] w'∧Below w.heap.size w w':=by
 have q1:¬(n:Int)<1:=by omega
 have q2:¬(64:Int)<(n:Int):=by omega
 go_enter Tryz.func192,Tryz.ntmps192
 go_wp2
 go_ret2
 exact⟨_,rfl,⟨_,heap_alloc_new w _,World.ownsRow_nil _ _ _ _,Nat.le_refl _⟩,(Below.refl _ _).alloc (Nat.le_refl _) _⟩
end Go.Proofs.YtmpeaoacaecgpaaGreatDoor.WX
namespace Go.Proofs.YtmpeaoacaecgpaaGreatDoor.Cb
open Go.RowKit Base Base2 Base3 cO
theorem clone_any (A:Option Addr) (n cap:Nat) (L:List UInt8) (w:World) (h:aY w A n (ah L)) (hm:n≤1073741824):
  Calls Tryz.prog 268 #[.slice A n cap] w fun e w'=>∃v,e=.returned v∧w'.ownsRow w.heap.size 5 1 v n (ah L)∧Below w.heap.size w w':=by
 have hl:L.length=n:=by rw[←aI];exact h.1
 have HH:=hid h
 clear h
 obtain⟨i0,hi,hz0,hz1,hz2⟩:=info_parts iR
 have hnil:=fun(W:World)=>Lib.run_eql_slice_nil (P:=Tryz.prog) W 45 5 A n cap 0 0 Tryz.underlying45
 cases A with
 | none=>
  have h0:n=0:=by
   rcases Nat.eq_zero_or_pos n with h0|h0
   ·exact h0
   ·obtain⟨_,_,e,_⟩:=HH.out.spot h0
    cases e
  subst h0
  obtain rfl:L=[]:=List.eq_nil_of_length_eq_zero hl
  go_enter Tryz.func268,Tryz.ntmps268
  go_wp2
  go_ret
  exact⟨_,rfl,World.ownsRow_nil _ _ _ _,Below.refl _ _⟩
 |some ad=>
  have hownA:(w.alloc (.cells #[] 5)).ownsRow w.heap.size 5 1 (.slice (some ⟨w.heap.size,0,none⟩) 0 0) 0 []:=World.ownsRow_made w #[] 0 (Nat.le_refl _) (by decide) rfl
  have jm:Below w.heap.size w (w.alloc (.cells #[] 5)):=(Below.refl _ _).alloc (Nat.le_refl _) _
  have Zf:Hid (aY (w.alloc (.cells #[] 5)) (some ad) n (ah L)):=HH.out.below jm
  clear hl
  go_enter Tryz.func268,Tryz.ntmps268
  go_wp2_with (at_builtin;refine dH rfl _ _ 45 rfl w.heap.size 5 i0 (.int .u8 0) 1 Tryz.underlying45 hi hz0 hz1 hz2 rfl _ 0 [] rfl hownA jm jm.size (some ad) n cap (ah L) rfl Zf.out (nR _) (by unfold maxLen;omega) (by omega) ?_)
  intro v3 w3 hown3 dG
  clear hownA jm Zf
  go_wp2
  go_ret
  exact⟨_,rfl,hown3,dG⟩
def alv (L:List UInt8):Bool:=decide (∀c ∈ L,32≤c.toNat∧c.toNat≤126)
def kd (L:List UInt8):List UInt8:=if alv L=true then lower L else[]
theorem aaJ (s:ByteArray) (w:World) (hm:s.size≤maxLen):
  Calls Tryz.prog 269 #[.string s] w fun e w'=>e=.returned (.string (strOf (kd s.data.toList)))∧Below w.heap.size w w':=by
 have hl:s.data.toList.length=s.size:=Array.length_toList
 have HL:=hid hl
 clear hl
 have hm':s.size≤9223372036854775807:=hm
 go_enter Tryz.func269,Tryz.ntmps269
 go_wp2
 go_loopw [3] (fun vk wr=>∃j:Nat,j≤s.size∧vk=.int .i64 j∧Hid (∀i (h:i<s.data.toList.length),i<j→32≤s.data.toList[i].toNat∧s.data.toList[i].toNat≤126)∧Below w.heap.size w wr) (fun vk _=>s.size - (intOf vk).toNat)
 case atStart=>exact⟨0,Nat.zero_le _,rfl,(fun i _ h=>absurd h (by omega)),Below.refl _ _⟩
 case round=>
  obtain⟨j,hj,rfl,HA,hbel⟩:=hrel
  by_cases hlt:j<s.size
  ·obtain ⟨c,hc⟩:∃c,s[j]=c:=⟨_,rfl⟩
   have HC:Hid (s.data.toList[j]'(by rw[HL.out];exact hlt)=c):=by rw[←hc];rfl
   have hc0:(c.toNat:Int)<256:=by have:=c.toNat_lt;omega
   by_cases hf:32≤(c.toNat:Int)∧(c.toNat:Int)≤126
   ·obtain ⟨f1,f2⟩:=hf
    have f1':¬(c.toNat:Int)<32:=by omega
    have f2':¬126<(c.toNat:Int):=by omega
    have HA2:Hid (∀i (h:i<s.data.toList.length),i<j+1→32≤s.data.toList[i].toNat∧s.data.toList[i].toNat≤126):=by
     intro i h hi
     by_cases e:i=j
     ·subst e
      rw[HC.out]
      omega
     ·exact HA.out i h (by omega)
    go_wp2
    go_roundw
    case rel=>exact⟨j+1,by omega,by go_num,HA2,hbel⟩
    case measure=>simp[intOf];omega
   ·have HK:Hid (kd s.data.toList=[]):=by
     show kd _=[]
     unfold kd
     rw[if_neg]
     unfold alv
     rw[decide_eq_true_iff]
     intro h
     have:=h c (by rw[←HC.out];exact List.getElem_mem _)
     omega
    rcases(show(c.toNat:Int)<32∨¬(c.toNat:Int)<32∧126<(c.toNat:Int)by omega)with h1|⟨h1,h2⟩
    all_goals
     clear hf
     go_wp2
     go_ret
     exact⟨agj (by rw[HK.out];rfl),hbel⟩
  ·obtain rfl:j=s.size:=by omega
   have HK:Hid (kd s.data.toList=lower s.data.toList):=by
    show kd _=_
    unfold kd
    rw[if_pos]
    unfold alv
    rw[decide_eq_true_iff]
    intro c hc
    obtain⟨i,hi,rfl⟩:=List.mem_iff_getElem.1 hc
    exact HA.out i hi (by rw[←HL.out];exact hi)
   go_wp2_with fail
   refine(cO.gI s _ hm).mono ?_
   rintro e w4 ⟨rfl,hb4⟩
   go_wp2
   go_ret
   exact⟨agj (by rw[HK.out]),hbel.trans (hb4.mono hbel.size)⟩
end Go.Proofs.YtmpeaoacaecgpaaGreatDoor.Cb
namespace Go.Proofs.YtmpeaoacaecgpaaGreatDoor.Ut
open Go.RowKit Base Base2 Base3 cO Cb
def jH (w:World) (g n:Nat) (L K:List UInt8):Prop:=
 ∃A c,g<w.heap.size∧w.cell? ⟨g,0,none⟩=some (.slice A n c)∧w.cell? ⟨g,1,none⟩=some (.string (strOf K))∧n≤c∧c≤maxLen∧aY w A n (ah L)
theorem len_any (g n:Nat) (L K:List UInt8) (w:World) (h:jH w g n L K):
  Calls Tryz.prog 198 #[.pointer (some ⟨g,0,none⟩)] w fun e w'=>e=.returned (.int .i64 (n:Int))∧Below w.heap.size w w':=by
 obtain⟨A,c,h1,h2,h3,h4,h5,h6⟩:=h
 clear h6
 unfold maxLen at h5
 have hn:n≤9223372036854775807:=Nat.le_trans h4 h5
 go_enter Tryz.func198,Tryz.ntmps198
 go_wp2
 go_ret
 exact⟨rfl,Below.refl _ _⟩
end Go.Proofs.YtmpeaoacaecgpaaGreatDoor.Ut
namespace Go.Proofs.YtmpeaoacaecgpaaGreatDoor.iH
open Go.RowKit Base Base2 Base3 cO Cb Ut uw
def iH (lo:Nat) (w:World) (g:Nat) (L K:List UInt8):Prop:=
 ∃v,lo≤g∧w.heap[g]?=some (.cells #[v,.string (strOf K)] 250 (0,0))∧w.ownsRow lo 5 1 v L.length (ah L)
theorem iH.at {lo:Nat} {w:World} {g:Nat} {L K:List UInt8} (h:iH lo w g L K):jH w g L.length L K:=by
 obtain⟨v,_,h1,h2⟩:=h
 obtain⟨A,c,rfl,h3,h4,h5⟩:=aJ h2
 exact⟨A,c,(Array.getElem?_eq_some_iff.1 h1).1,(cell_of_row w g 0 _ _ _ h1).trans rfl,(cell_of_row w g 1 _ _ _ h1).trans rfl,h3,h4,h5⟩
theorem iH.low {lo lo':Nat} {w:World} {g:Nat} {L K:List UInt8} (h:iH lo w g L K) (hl:lo'≤lo):iH lo' w g L K:=by
 obtain⟨v,h0,h1,h2⟩:=h
 exact⟨v,Nat.le_trans hl h0,h1,ay h2 hl⟩
theorem iH.lt {lo:Nat} {w:World} {g:Nat} {L K:List UInt8} (h:iH lo w g L K):g<w.heap.size:=by
 obtain⟨v,_,h1,_⟩:=h
 exact(Array.getElem?_eq_some_iff.1 h1).1
theorem iH.below {lo:Nat} {w w':World} {g:Nat} {L K:List UInt8} (h:iH lo w g L K) (hb:Below w.heap.size w w'):iH lo w' g L K:=by
 have hl:=h.lt
 obtain⟨v,h0,h1,h2⟩:=h
 exact⟨v,h0,(hb.block g hl).trans h1,aP h2 hb⟩
theorem iH.kp {lo:Nat} {w w':World} {g:Nat} {L K:List UInt8} {T E:TypeId} (h:iH lo w g L K) (hk:Kp T E w w') (h1:250≠T) (h2:250≠E) (h3:5≠T) (h4:5≠E):iH lo w' g L K:=by
 obtain⟨v,a,b,c⟩:=h
 exact⟨v,a,hk.cells b h1 h2,hk.owns c h3 h4⟩
theorem amx (A:Option Addr) (n cap:Nat) (L:List UInt8) (s:ByteArray) (w:World) (h:aY w A n (ah L)) (hm:n≤1073741824) (hs:s.size≤maxLen):
  Calls Tryz.prog 195 #[.slice A n cap,.string s] w fun e w'=>∃g,e=.returned (.pointer (some ⟨g,0,none⟩))∧w.heap.size≤g∧iH w.heap.size w' g L (kd s.data.toList)∧Below w.heap.size w w':=by
 have HH:=hid h
 clear h
 go_enter Tryz.func195,Tryz.ntmps195
 go_wp2_with fail
 refine(clone_any A n cap L _ HH.out hm).mono ?_
 rintro e w1 ⟨v,rfl,hown,hb1⟩
 obtain⟨A1,c1,hv,_⟩:=aJ hown
 subst hv
 have HO1:=hid hown
 have HNL:Hid (L.length=n):=by show _=_;rw[←aI];exact HH.out.1
 clear hown
 go_wp2_with fail
 refine(aaJ s _ hs).mono ?_
 rintro e w2 ⟨rfl,hb2⟩
 have jy:=hid (aP HO1.out hb2)
 go_wp2
 go_ret
 refine⟨w2.heap.size,rfl,Nat.le_trans hb1.size hb2.size,⟨_,Nat.le_trans hb1.size hb2.size,heap_alloc_new _ _,?_⟩,(bel hb1 hb2).alloc (Nat.le_trans hb1.size hb2.size) _⟩
 rw[HNL.out]
 exact aP jy.out ((Below.refl _ _).alloc (Nat.le_refl _) _)
end Go.Proofs.YtmpeaoacaecgpaaGreatDoor.iH
namespace Go.Proofs.YtmpeaoacaecgpaaGreatDoor.MaiA
open Go.Conc Go.RowKit Base Base2
def M2 (t:TypeId) (w:World) (g cu cp:Nat):Prop:=w.heap[g]?=some (.cells #[.chan (some cu),.chan (some cp)] t (0,0))
def Box (w:World) (c cap:Nat) (buf:Array Value) (s r:Nat):Prop:=w.heap[c]?=some (.chan cap buf false s r false)
end Go.Proofs.YtmpeaoacaecgpaaGreatDoor.MaiA
namespace Go.Proofs.YtmpeaoacaecgpaaGreatDoor.ajY
open Go.Conc Go.RowKit Base Base2 MaiA
def MS (t:TypeId) (B:Nat) (w:World) (g cap:Nat) (U P:List Value):Prop:=∃cu cp s r s' r',M2 t w g cu cp∧Box w cu cap U.toArray s r∧Box w cp cap P.toArray s' r'∧cu≠cp∧B≤g∧B≤cu∧B≤cp
theorem akX {w:World} {c cap s r:Nat} {buf:Array Value} (h:Box w c cap buf s r):c<w.heap.size:=(Array.getElem?_eq_some_iff.1 h).1
theorem m2_lt {t:TypeId} {w:World} {g cu cp:Nat} (h:M2 t w g cu cp):g<w.heap.size:=(Array.getElem?_eq_some_iff.1 h).1
theorem MS.below {t:TypeId} {B:Nat} {w w':World} {g cap:Nat} {U P:List Value} (h:MS t B w g cap U P) (hb:Below w.heap.size w w'):MS t B w' g cap U P:=by
 obtain⟨cu,cp,s,r,s',r',h1,h2,h3,rest⟩:=h
 exact⟨cu,cp,s,r,s',r',(hb.block _ (m2_lt h1)).trans h1,(hb.block _ (akX h2)).trans h2,(hb.block _ (akX h3)).trans h3,rest⟩
theorem abW (w:World) (a b c:Obj):((((w.alloc a).alloc b).alloc c).heap[w.heap.size]?=some a∧(((w.alloc a).alloc b).alloc c).heap[w.heap.size+1]?=some b∧(((w.alloc a).alloc b).alloc c).heap[w.heap.size+2]?=some c):=by
 refine⟨?_,?_,?_⟩
 ·rw[Below.heap_alloc _ _ _ (by simp;omega),Below.heap_alloc _ _ _ (by simp)];exact heap_alloc_new w _
 ·rw[Below.heap_alloc _ _ _ (by simp)]
  have:=heap_alloc_new (w.alloc a) b
  simpa only[World.size_alloc]using this
 have:=heap_alloc_new ((w.alloc a).alloc b) c
 simpa only[World.size_alloc]using this
theorem infoS:∃i,Tryz.prog.info? 9=some i∧i.bytes=16:=by
 have h:(Tryz.prog.info? 9).map (·.bytes)=some 16:=by kernel_rfl
 obtain⟨i,hi,hb⟩:=Option.map_eq_some_iff.1 h
 exact⟨i,hi,hb⟩
theorem mkS (n:Nat) (hn:n≤64) (w:World):(Instr.makeChan 244 (.int .i64 (n:Int))).run Tryz.prog w=.ok (.chan (some w.heap.size)) (w.alloc (.chan n #[] false 0 0 false)):=by
 obtain⟨i,hi,hb⟩:=infoS
 exact run_makeChan (P:=Tryz.prog) (w:=w) Tryz.underlying244 hi .i64 n (by omega) (by rw[hb];omega)
theorem newS (n:Nat) (h1:1≤n) (hn:n≤64) (w:World):Calls Tryz.prog 193 #[.int .i64 (n:Int)] w fun e w'=>∃g,e=.returned (.tuple #[.pointer (some ⟨g,0,none⟩),.int .i64 0])∧MS 246 w.heap.size w' g n [] []∧Below w.heap.size w w':=by
 have hmc:=mkS n hn
 have h1i:¬(n:Int)<1:=by omega
 have h2i:¬(64:Int)<(n:Int):=by omega
 go_enter Tryz.func193,Tryz.ntmps193
 go_wp2_with fail
 go_region
 ·go_wp2
  go_ret2
  obtain⟨t0,t1,t2⟩:=abW w (.chan n #[] false 0 0 false) (.chan n #[] false 0 0 false) (.cells #[.chan (some w.heap.size),.chan (some (w.heap.size+1))] 246 (0,0))
  exact⟨_,rfl,⟨_,_,0,0,0,0,t2,t0,t1,by omega,by omega,by omega,by omega⟩,((((Below.refl _ _).alloc (Nat.le_refl _) _).alloc (by simp) _).alloc (by simp;omega) _).drew⟩
 go_wp2
 go_ret2
 obtain⟨t0,t1,t2⟩:=abW w (.chan n #[] false 0 0 false) (.chan n #[] false 0 0 false) (.cells #[.chan (some (w.heap.size+1)),.chan (some w.heap.size)] 246 (0,0))
 exact⟨_,rfl,⟨_,_,0,0,0,0,t2,t1,t0,by omega,by omega,by omega,by omega⟩,((((Below.refl _ _).alloc (Nat.le_refl _) _).alloc (by simp) _).alloc (by simp;omega) _).drew⟩
end Go.Proofs.YtmpeaoacaecgpaaGreatDoor.ajY
namespace Go.Proofs.YtmpeaoacaecgpaaGreatDoor.TL
open Go.RowKit Base Base2 uw xH iH ajY
structure SM where
 bytes:Nat
 qo:Nat
 Ep:Nat
 last:Nat
 kY:List (Nat×Nat)
 urls:List (Bc Nat)
 U:List Value
 P:List Value
 bl:Nat→List UInt8×List UInt8
def total (m:SM):Nat:=(m.kY.map fun p=>(m.bl p.2).1.length).sum
def Live (m:SM) (g:Nat):Prop:=(∃p ∈ m.kY,p.2=g)∨∃e ∈ m.urls,e.x=g
structure Fit (m:SM):Prop where
 tn:m.kY.length≤m.qo
 b64:m.qo≤64
 un:m.urls.length≤m.Ep
 u64:m.Ep≤64
 sum:total m≤m.bytes
 cap:m.bytes≤1048576
 ord:∀i j (hi:i<m.kY.length) (hj:j<m.kY.length),i<j→m.kY[i].1<m.kY[j].1
 top:∀p ∈ m.kY,1≤p.1∧p.1≤m.last
abbrev TT:TypeId:=240
abbrev TE:TypeId:=248
abbrev ST:TypeId:=243
abbrev SE:TypeId:=353
def Ks (w w':World):Prop:=∀(k:Nat) (cs:Array Value) (t:TypeId) (m:Nat×Nat),w.heap[k]?=some (Obj.cells cs t m)→t≠TT→t≠TE→t≠ST→t≠SE→w'.heap[k]?=some (Obj.cells cs t m)
theorem Ks.trans {a b c:World} (h:Ks a b) (k:Ks b c):Ks a c:=fun i cs t m e h1 h2 h3 h4=>k i cs t m (h i cs t m e h1 h2 h3 h4) h1 h2 h3 h4
theorem Ks.below {w w':World} (hb:Below w.heap.size w w'):Ks w w':=fun k cs t m h _ _ _ _=>(hb.block k (Array.getElem?_eq_some_iff.1 h).1).trans h
theorem Ks.tab {w w':World} (h:Kp TT TE w w'):Ks w w':=fun _ _ _ _ e h1 h2 _ _=>h.cells e h1 h2
theorem ms_kp {T E t:TypeId} {B:Nat} {w w':World} {g cap:Nat} {U P:List Value} (h:MS t B w g cap U P) (hk:Kp T E w w') (h1:t≠T) (h2:t≠E):MS t B w' g cap U P:=by
 obtain⟨cu,cp,s,r,s',r',a,b,c,d⟩:=h
 exact⟨cu,cp,s,r,s',r',hk.cells a h1 h2,hk _ _ b (fun _ _=>⟨(fun x=>by cases x),(fun x=>by cases x)⟩),hk _ _ c (fun _ _=>⟨(fun x=>by cases x),(fun x=>by cases x)⟩),d⟩
structure Bh (B gs gt gu gm:Nat) (m:SM) (w:World):Prop where
 top:w.heap[gs]?=some (.cells #[.int .i64 (m.bytes:Int),.pointer (some ⟨gt,0,none⟩),.pointer (some ⟨gu,0,none⟩),.pointer (some ⟨gm,0,none⟩)] 194 (0,0))
 tab:Ny TT TE uw.nT B gt m.qo m.last m.kY w
 sto:IsS ST SE uw.nT B gu m.Ep m.urls w
 mai:MS 246 B w gm m.Ep m.U m.P
 blo:∀g,Live m g→iH B w g (m.bl g).1 (m.bl g).2
 lo:B≤gs
 fit:Fit m
section
variable {B gs gt gu gm:Nat} {m:SM} {w w':World}
theorem Bh.lt (h:Bh B gs gt gu gm m w):gs<w.heap.size:=(Array.getElem?_eq_some_iff.1 h.top).1
theorem Bh.size (h:Bh B gs gt gu gm m w):B≤w.heap.size:=Nat.le_trans h.lo (Nat.le_of_lt h.lt)
theorem Bh.below (h:Bh B gs gt gu gm m w) (hb:Below w.heap.size w w'):Bh B gs gt gu gm m w':=
 ⟨(hb.block _ h.lt).trans h.top,h.tab.below hb,h.sto.below hb,h.mai.below hb,fun g hg=>(h.blo g hg).below hb,h.lo,h.fit⟩
theorem Bh.facts (h:Bh B gs gt gu gm m w):w.cell? ⟨gs,0,none⟩=some (.int .i64 (m.bytes:Int))∧w.cell? ⟨gs,1,none⟩=some (.pointer (some ⟨gt,0,none⟩))∧w.cell? ⟨gs,2,none⟩=some (.pointer (some ⟨gu,0,none⟩))∧w.cell? ⟨gs,3,none⟩=some (.pointer (some ⟨gm,0,none⟩)):=
 ⟨(cell_of_row w gs 0 _ _ _ h.top).trans rfl,(cell_of_row w gs 1 _ _ _ h.top).trans rfl,(cell_of_row w gs 2 _ _ _ h.top).trans rfl,(cell_of_row w gs 3 _ _ _ h.top).trans rfl⟩
theorem Bh.tab' {m':SM} (h:Bh B gs gt gu gm m w) (hk:Kp TT TE w w') (ht:Ny TT TE uw.nT B gt m'.qo m'.last m'.kY w') (hb:∀g,Live m' g→iH B w g (m'.bl g).1 (m'.bl g).2) (hf:Fit m') (e1:m'.bytes=m.bytes) (e2:m'.Ep=m.Ep) (e3:m'.urls=m.urls) (e4:m'.U=m.U) (e5:m'.P=m.P):Bh B gs gt gu gm m' w':=
 ⟨by rw[e1];exact hk.cells h.top (by decide) (by decide),ht,by rw[e2,e3];exact h.sto.kp hk (by decide) (by decide) (by decide) (by decide),by rw[e2,e4,e5];exact ms_kp h.mai hk (by decide) (by decide),fun g hg=>(hb g hg).kp hk (by decide) (by decide) (by decide) (by decide),h.lo,hf⟩
end
theorem idx_at {m:SM} (h:Fit m) {k:Nat} (hk:k<m.kY.length):uw.idx m.kY ((m.kY[k].1:Nat):Int)=some k:=by
 unfold uw.idx
 rw[List.findIdx?_eq_some_iff_getElem]
 refine⟨hk,by simp,fun j hj=>?_⟩
 have:=h.ord j k (Nat.lt_trans hj hk) hk hj
 simp only[decide_eq_true_eq]
 omega
end Go.Proofs.YtmpeaoacaecgpaaGreatDoor.TL
namespace Go.Proofs.YtmpeaoacaecgpaaGreatDoor.TK
open Go.RowKit Base Base2 Base3 Regs cO Cb iH uw xH ajY TL
theorem ist_low {B B' g r n:Nat} {l:List (Nat×Nat)} {w:World} (h:Ny TT TE uw.nT B g r n l w) (hb:B'≤B):Ny TT TE uw.nT B' g r n l w:=by
 obtain⟨v,a,b,c⟩:=h
 exact⟨v,a,ay b hb,Nat.le_trans hb c⟩
theorem iss_low {B B' g r:Nat} {l:List (Bc Nat)} {w:World} (h:IsS ST SE uw.nT B g r l w) (hb:B'≤B):IsS ST SE uw.nT B' g r l w:=by
 obtain⟨v,a,b,c⟩:=h
 exact⟨v,a,ay b hb,Nat.le_trans hb c⟩
theorem ms_low {t:TypeId} {B B' g cap:Nat} {U P:List Value} {w:World} (h:MS t B w g cap U P) (hb:B'≤B):MS t B' w g cap U P:=by
 obtain⟨cu,cp,s,r,s',r',a,b,c,d,e,f,g⟩:=h
 exact⟨cu,cp,s,r,s',r',a,b,c,d,Nat.le_trans hb e,Nat.le_trans hb f,Nat.le_trans hb g⟩
def nil0 (n b u:Nat):SM:=⟨n,b,u,0,[],[],[],[],fun _=>([],[])⟩
theorem amy (b u n:Nat) (hb1:1≤b) (hb2:b≤64) (hu1:1≤u) (hu2:u≤64) (hn:n≤1048576) (w:World):Calls Tryz.prog 90 #[.agg #[.int .i64 (b:Int),.int .i64 (u:Int),.int .i64 (n:Int)]] w fun e w'=>∃gs gt gu gm,e=.returned (.tuple #[.pointer (some ⟨gs,0,none⟩),.int .i64 0])∧Bh w.heap.size gs gt gu gm (nil0 n b u) w'∧Below w.heap.size w w':=by
 have q1:¬(n:Int)<0:=by omega
 have q2:¬(1048576:Int)<(n:Int):=by omega
 go_enter Tryz.func90,Tryz.ntmps90
 go_upto_region 1 with(fail)
 generalize bI:World.alloc w _=v1
 have h1_:v1.heap[w.heap.size]?=some (.cells #[.int .i64 (b:Int),.int .i64 (u:Int),.int .i64 (n:Int)] 107 (0,0))∧Below w.heap.size w v1:=by
  subst bI
  exact⟨heap_alloc_new w _,(Below.refl _ _).alloc (Nat.le_refl _) _⟩
 clear bI
 have X1:=hid h1_.1
 have HB1:=hid h1_.2
 clear h1_
 obtain⟨c0,c1,c2⟩:=cells3 X1.out
 go_wp2_with fail
 refine(TbB.new_any b hb1 hb2 _).mono ?_
 rintro e w2 ⟨gt,rfl,hT,hb⟩
 have HT2:=hid hT
 have HB2:=hid (bel HB1.out hb)
 have X2:=hid ((hb.block _ (Array.getElem?_eq_some_iff.1 X1.out).1).trans X1.out)
 have HL2:Hid (w.heap.size≤v1.heap.size):=HB1.out.size
 clear hT hb c0 c1 c2 X1
 obtain⟨c0,c1,c2⟩:=cells3 X2.out
 go_wp2_with fail
 refine(WX.new_any u hu1 hu2 _).mono ?_
 rintro e w3 ⟨gu,rfl,hS,hb⟩
 have TD:=hid hS
 have HT3:=hid (HT2.out.below hb)
 have HB3:=hid (bel HB2.out hb)
 have X3:=hid ((hb.block _ (Array.getElem?_eq_some_iff.1 X2.out).1).trans X2.out)
 have HL3:Hid (w.heap.size≤w2.heap.size):=HB2.out.size
 clear hS hb c0 c1 c2 X2 HT2
 obtain⟨c0,c1,c2⟩:=cells3 X3.out
 go_wp2_with fail
 refine(newS u hu1 hu2 _).mono ?_
 rintro e w4 ⟨gm,rfl,hM,hb⟩
 have HM4:=hid hM
 have HS4:=hid (TD.out.below hb)
 have HT4:=hid (HT3.out.below hb)
 have HB4:=hid (bel HB3.out hb)
 have X4:=hid ((hb.block _ (Array.getElem?_eq_some_iff.1 X3.out).1).trans X3.out)
 have HL4:Hid (w.heap.size≤w3.heap.size):=HB3.out.size
 clear hM hb c0 c1 c2 X3 HT3 TD
 obtain⟨c0,c1,c2⟩:=cells3 X4.out
 go_wp2
 go_ret2
 have hb5:=(Below.refl w4.heap.size w4).alloc (Nat.le_refl _) (.cells #[.int .i64 (n:Int),.pointer (some ⟨gt,0,none⟩),.pointer (some ⟨gu,0,none⟩),.pointer (some ⟨gm,0,none⟩)] 194)
 exact⟨w4.heap.size,gt,gu,gm,rfl,⟨heap_alloc_new w4 _,ist_low (HT4.out.below hb5) HL2.out,iss_low (HS4.out.below hb5) HL3.out,ms_low (HM4.out.below hb5) HL4.out,fun g hg=>absurd hg (by rintro(⟨p,h,_⟩|⟨p,h,_⟩)<;>cases h),HB4.out.size,⟨Nat.zero_le _,hb2,Nat.zero_le _,hu2,Nat.zero_le _,hn,fun i j hi=>absurd hi (Nat.not_lt_zero _),fun p hp=>(by cases hp)⟩⟩,bel HB4.out hb5⟩
def part (m:SM) (k:Nat):Nat:=((m.kY.take k).map fun p=>(m.bl p.2).1.length).sum
theorem ah5 (m:SM) (k:Nat) (h:k<m.kY.length):part m (k+1)=part m k+(m.bl m.kY[k].2).1.length:=by
 unfold part
 rw[List.take_succ_eq_append_getElem h,List.map_append,List.sum_append]
 simp
theorem part_le (m:SM) (k:Nat):part m k≤total m:=by
 unfold part total
 rw[←List.take_append_drop k m.kY,List.map_append,List.sum_append,List.take_append_drop]
 omega
theorem amR (m:SM):part m m.kY.length=total m:=by unfold part total;rw[List.take_length]
theorem qw (B gs gt gu gm:Nat) (m:SM) (w:World) (h:Bh B gs gt gu gm m w):Calls Tryz.prog 92 #[.pointer (some ⟨gs,0,none⟩)] w fun e w'=>e=.returned (.int .i64 (total m:Int))∧Below w.heap.size w w':=by
 have TA:=hid h
 obtain⟨c0,c1,c2,c3⟩:=h.facts
 have hglt:=h.lt
 have htn:m.kY.length≤64:=Nat.le_trans h.fit.tn h.fit.b64
 have htni:(m.kY.length:Int)≤64:=by omega
 have hcap:total m≤1048576:=Nat.le_trans h.fit.sum h.fit.cap
 clear h
 go_enter Tryz.func92,Tryz.ntmps92
 go_wp2_with fail
 refine(TbC.aas B gt m.qo m.last m.kY _ TA.out.tab htn).mono ?_
 rintro e w1 ⟨v,rfl,hown,hb⟩
 have Ux:=hid (TA.out.below hb)
 obtain⟨A,cc,rfl,hc,hm,hr⟩:=aJ hown
 have HR1:=hid hr
 have HB1:=hid hb
 clear hown hr hb c0 c1 c2 c3
 go_wp2
 go_loopw [3,5,6,7,16] (fun vs _ _ _ vk wr=>∃k:Nat,k≤m.kY.length∧vk=.int .i64 (k:Int)∧vs=.int .i64 (part m k:Int)∧Hid (Bh B gs gt gu gm m wr)∧Hid (aY wr A m.kY.length (gV .i64 (TbC.hs m.kY)))∧Below w.heap.size w wr) (fun _ _ _ _ vk _=>m.kY.length - (intOf vk).toNat)
 case atStart=>exact⟨0,Nat.zero_le _,rfl,rfl,Ux.out,HR1.out,HB1.out⟩
 case round=>
  obtain⟨k,hk,rfl,rfl,HK,HR,hbel⟩:=hrel
  by_cases hlk:k<m.kY.length
  ·obtain⟨c0,c1,c2,c3⟩:=HK.out.facts
   obtain⟨b,off,rfl,hbl,hcell⟩:=HR.out.spot (by omega)
   have hck:=hcell k (by rw[jA,TbC.Vo];exact hlk)
   have hval:(gV .i64 (TbC.hs m.kY))[k]'(by rw[jA,TbC.Vo];exact hlk)=.int .i64 ((m.kY[k].1:Nat):Int):=by simp[gV,TbC.hs]
   rw[hval]at hck
   have hkI:(k:Int)<(m.kY.length:Int):=by omega
   have HI:=hid (idx_at HK.out.fit hlk)
   have HG:Hid (TbB.got m.kY ((m.kY[k].1:Nat):Int)=.tuple #[.pointer (some ⟨m.kY[k].2,0,none⟩),.bool true]):=by
    show _=_
    unfold TbB.got
    rw[HI.out]
    simp only
    rw[List.getElem?_eq_getElem hlk]
    rfl
   have HBL:=hid (HK.out.blo m.kY[k].2 (.inl ⟨_,List.getElem_mem hlk,rfl⟩))
   have HPS:=hid (ah5 m k hlk)
   have vW:=hid (part_le m (k+1))
   clear hcell hval
   go_wp2_with fail
   refine(TbB.get_any B gt m.qo m.last m.kY _ _ HK.out.tab htn).mono ?_
   rw[HG.out]
   rintro e w2 ⟨rfl,hb2⟩
   have X6:=hid (HK.out.below hb2)
   have HR2:=hid (HR.out.below hb2)
   have H8:=hid (HBL.out.below hb2)
   have HB2:=hid (bel hbel hb2)
   clear hb2 HK HR HBL hbel hck c0 c1 c2 c3
   go_wp2_with fail
   refine(Ut.len_any _ _ _ _ _ H8.out.at).mono ?_
   rintro e w3 ⟨rfl,hb3⟩
   have NV:=hid (X6.out.below hb3)
   have HR3:=hid (HR2.out.below hb3)
   have HB3:=hid (bel HB2.out hb3)
   clear hb3 X6 HR2 H8 HB2
   have hs1:(part m k:Int)+((m.bl m.kY[k].2).1.length:Int)=(part m (k+1):Int):=by rw[HPS.out];simp
   have hs2:(part m (k+1):Int)≤1048576:=by have:=vW.out;omega
   go_wp2
   go_roundw
   case rel=>exact⟨k+1,by omega,by go_num,by first|rfl|rw[hs1]|(congr 1),NV.out,HR3.out,HB3.out⟩
   case measure=>simp[intOf];omega
  obtain rfl:k=m.kY.length:=by omega
  rw[amR]
  go_wp2
  go_ret
  exact⟨rfl,hbel⟩
end Go.Proofs.YtmpeaoacaecgpaaGreatDoor.TK
namespace Go.Proofs.YtmpeaoacaecgpaaGreatDoor.Regs
open Go.RowKit Base
def did (L:Nat→Bool) (i:Nat) (k:Nat):Bool:=if k=i then true else L k
theorem oU (L:Nat→Bool) (i:Nat):did L i i=true:=by simp[did]
theorem jM (L:Nat→Bool) {i k:Nat} (h:k≠i):did L i k=L k:=by simp[did,h]
def Free (R:List Keep):Prop:=∀k v w w',(pick R k).says v w→(pick R k).says v w'
theorem rP:Free []:=fun _ _ _ _ _=>trivial
theorem wO {R:List Keep} (u:Value) (h:Free R):Free (is u::R):=fun k v w w' hs=>match k,hs with
 |0,hs=>hs
 |k+1,hs=>h k v w w' hs
theorem nD {R:List Keep} (h:Free R):Free (any::R):=fun k v w w' hs=>match k,hs with
 |0,_=>trivial
 |k+1,hs=>h k v w w' hs
section
variable {P:Program} {md:Region.Mode} {ops:Array Oper} {Q:Exit→Act→World→Prop}
def StepG (P:Program) (ops:Array Oper) (Q:Exit→Act→World→Prop) (A:(Nat→Value)→Act) (G:(Nat→Bool)→(Nat→Value)→World→Prop) (R:List Keep) (N:List (List Nat)) (i:Nat) (o:Oper) (ns:List Nat):Prop:=
 ∀L t w,G L t w→L i=false→(∀k,L k=true→∀j ∈ N.getD k [],L j=true)→(∀k ∈ ns,L k=true)→Have R t w ns→∀K:Act→World→Prop,(∀v w',(pick R i).says v w'→G (did L i) (upd t i v) w'→K (A (upd t i v)) w')→
  if Region.wanted o (yielded ops (A t).tmps)=true then Oper.wp P o (A t) w K Q else K ((A t).put o.dst undef) w
def Gm (P:Program) (ops:Array Oper) (Q:Exit→Act→World→Prop) (A:(Nat→Value)→Act) (G:(Nat→Bool)→(Nat→Value)→World→Prop) (R:List Keep) (N:List (List Nat)):Nat→List Oper→List (List Nat)→Prop
 |_,[],_=>True
 |k,o::os,ns=>StepG P ops Q A G R N k o (ns.headD [])∧Gm P ops Q A G R N (k+1) os ns.tail
theorem Gm.at {A:(Nat→Value)→Act} {G:(Nat→Bool)→(Nat→Value)→World→Prop} {R:List Keep} {N:List (List Nat)}:∀(os:List Oper) (k:Nat) (ns:List (List Nat)),Gm P ops Q A G R N k os ns→∀j o,os[j]?=some o→StepG P ops Q A G R N (k+j) o (ns.getD j [])
 |[],_,_,_,j,o,h=>by simp at h
 |p::os,k,ns,h,0,o,e=>by
  simp at e
  subst e
  cases ns<;>exact h.1
 |p::os,k,ns,h,j+1,o,e=>by
  have:=Gm.at os (k+1) ns.tail h.2 j o (by simpa using e)
  rw[Nat.add_assoc,Nat.add_comm 1 j]at this
  cases ns<;>simpa using this
structure InvG (ops:Array Oper) (G:(Nat→Bool)→(Nat→Value)→World→Prop) (R:List Keep) (ns:List (List Nat)) (listed:Array Bool) (t:Nat→Value) (w:World):Prop where
 own:G (fun k=>listed.getD k false) t w
 size:listed.size=ops.size
 held:∀i,listed.getD i false=true→(pick R i).says (t i) w∧∀k ∈ ns.getD i [],listed.getD k false=true
theorem aiY {A:(Nat→Value)→Act} {G:(Nat→Bool)→(Nat→Value)→World→Prop} {R:List Keep} {ns:List (List Nat)} (hB:DF md ops ns=true) (hf:Free R) (steps:Gm P ops Q A G R ns 0 ops.toList ns)
  (fin:∀L t w,G L t w→(∀k<ops.size,L k=true)→Have R t w (List.range ops.size)→Q .normal (A t) w):
  ∀(fuel:Nat) (listed:Array Bool) (t:Nat→Value) (w:World),InvG ops G R ns listed t w→YV ops listed≤fuel→wpAny P md ops Q fuel listed (A t) w:=by
 have done:∀(listed:Array Bool) (t:Nat→Value) (w:World),InvG ops G R ns listed t w→Region.ready md ops listed=[]→Q .normal (A t) w:=fun listed t w h hr=>
  fin _ t w h.own (fun k hk=>uU hB h.size hr (k+1) k (by omega) hk) (o8 _ fun k hk=>(h.held k (uU hB h.size hr (k+1) k (by omega) (by simpa using hk))).1)
 intro fuel
 induction fuel with
 | zero=>
  intro listed t w h hu
  have hr:Region.ready md ops listed=[]:=by
   cases e:Region.ready md ops listed with
   |nil=>rfl
   |cons i l=>
    have hi:i ∈ Region.ready md ops listed:=by rw[e];simp
    obtain⟨h0,o,ho,_⟩:=mem_ready.1 hi
    have:=countP_set h.size (Array.getElem?_eq_some_iff.1 ho).1 h0
    omega
  exact⟨hr,done listed t w h hr⟩
 | succ fuel ih=>
  intro listed t w h hu
  refine⟨done listed t w h,fun i hi=>?_⟩
  obtain⟨h0,o,ho,hall⟩:=mem_ready.1 hi
  have hlt:=(Array.getElem?_eq_some_iff.1 ho).1
  have wQ:∀k ∈ ns.getD i [],listed.getD k false=true:=fun k hk=>by
   obtain⟨e,he,hb,hk⟩:=(vK hB ho).2 k hk
   rcases hk with rfl|hk
   ·exact hall e he hb
   ·exact(h.held e.on (hall e he hb)).2 k hk
  have hst:=Gm.at ops.toList 0 ns steps i o (by simpa using ho)
  rw[Nat.zero_add]at hst
  refine wpOp_step ho fun K hK=>hst (fun k=>listed.getD k false) t w h.own (by
   show listed.getD i false=false
   rw[wP (by rw[h.size];exact hlt) false true];exact h0) (fun k hk j hj=>(h.held k hk).2 j hj) wQ (o8 _ fun k hk=>(h.held k (wQ k hk)).1) K fun v w' hv hg=>hK _ _ (ih _ _ _ ⟨?_,by simpa using h.size,fun j hj=>?_⟩ ?_)
  ·have e:(fun k=>(listed.setIfInBounds i true).getD k false)=did (fun k=>listed.getD k false) i:=by
    funext k
    by_cases hk:k=i
    ·subst hk
     rw[oU]
     simp[Array.getD,h.size,hlt]
    ·rw[jM _ hk]
     exact getD_set_ne false (Ne.symm hk)
   rw[e]
   exact hg
  ·by_cases hji:j=i
   ·subst hji
    refine⟨by simpa[upd]using hv,fun k hk=>getD_set_true (wQ k hk)⟩
   ·rw[getD_set_ne false (Ne.symm hji)]at hj
    have:=h.held j hj
    refine⟨by simp only[upd,if_neg hji];exact hf j _ _ _ this.1,fun k hk=>getD_set_true (this.2 k hk)⟩
  ·have:=countP_set h.size hlt h0
   omega
theorem jc {id:Nat} {a:Act} {w:World} {l:List Oper} (hm:P.follows .mixedOrders=true) (G:(Nat→Bool)→(Nat→Value)→World→Prop) (R:List Keep) (ns:List (List Nat)) (hB:DF .any l.toArray ns=true) (hf:Free R)
  (beg:∀t,G (fun _=>false) t {w with drawn:=w.drawn+1})
  (steps:Gm P l.toArray Q (fun t=>filled t l 0 a) G R ns 0 l ns)
  (fin:∀L t w',G L t w'→(∀k<l.length,L k=true)→Have R t w' (List.range l.length)→Q .normal (filled t l 0 a) w'):(Code.region id l.toArray true).wp P Q a w:=by
 refine wp_region_any hm ?_
 have h:=aiY (P:=P) (Q:=Q) (md:=.any) (ops:=l.toArray) (A:=fun t=>filled t l 0 a) (G:=G) (R:=R) (ns:=ns) hB hf (by simpa using steps) (by simpa using fin) l.length (Array.replicate l.length false) (now l a) {w with drawn:=w.drawn+1}
  ⟨by
   have e:(fun k=>(Array.replicate l.length false).getD k false)=fun _=>false:=by
    funext k
    by_cases h:k<l.length<;>simp[Array.getD,h]
   rw[e]
   exact beg _,by simp,fun i hi=>by
   by_cases h:i<l.length<;>simp[Array.getD,h]at hi⟩ (by unfold YV;refine Nat.le_trans List.countP_le_length ?_;simp)
 have e:filled (now l a) l 0 a=a:=uY a l l 0 (fun j=>by simp)
 have h':wpAny P .any l.toArray Q l.length (Array.replicate l.length false) (filled (now l a) l 0 a) {w with drawn:=w.drawn+1}:=h
 rw[e]at h'
 simpa using h'
end
end Go.Proofs.YtmpeaoacaecgpaaGreatDoor.Regs
namespace Go.Proofs.YtmpeaoacaecgpaaGreatDoor.Fq
open Go.RowKit Base Regs
structure GW (i:Nat) (w3:World) (ks:List (Nat×Keep)) (Z:World→Prop) (L:Nat→Bool) (t:Nat→Value) (w:World):Prop where
 pre:L i=false→Below w3.heap.size w3 w∧∀p ∈ ks,L p.1=true→p.2.says (t p.1) w
 post:L i=true→Z w
section
variable {i:Nat} {w3:World} {ks:List (Nat×Keep)} {Z:World→Prop} {L:Nat→Bool} {t:Nat→Value} {w w':World}
theorem GW.beg (i:Nat) (w3:World) (ks:List (Nat×Keep)) (Z:World→Prop) (t:Nat→Value):GW i w3 ks Z (fun _=>false) t w3.drew:=
 ⟨fun _=>⟨(Below.refl _ _).drew,fun _ _ h=>(by cases h)⟩,fun h=>(by cases h)⟩
theorem Un (hz:∀w w':World,Below w.heap.size w w'→Z w→Z w') (j:Nat) (hj:(j==i||ks.any fun p=>p.1==j)=false) {v:Value} (hb:Below w.heap.size w w') (h:GW i w3 ks Z L t w):GW i w3 ks Z (did L j) (upd t j v) w':=by
 rw[Bool.or_eq_false_iff,beq_eq_false_iff_ne]at hj
 have e:did L j i=L i:=jM L (Ne.symm hj.1)
 refine⟨fun hi=>?_,fun hi=>hz _ _ hb (h.post (by rw[←e];exact hi))⟩
 obtain⟨h1,h2⟩:=h.pre (by rw[←e];exact hi)
 refine⟨h1.trans (hb.mono h1.size),fun p hp hl=>?_⟩
 have hne:p.1≠j:=fun x=>by
  have:=List.any_eq_false.1 hj.2 p hp
  simp[x]at this
 rw[jM L hne]at hl
 have hu:upd t j v p.1=t p.1:=by simp[upd,hne]
 rw[hu]
 exact p.2.stays _ _ _ hb (h2 p hp hl)
theorem keep (h:GW i w3 ks Z L t w) (hL:L i=false) (j:Nat) (hj:j≠i) {v:Value} (hb:Below w.heap.size w w') (hv:∀p ∈ ks,p.1=j→p.2.says v w'):GW i w3 ks Z (did L j) (upd t j v) w':=by
 have e:did L j i=L i:=jM L (Ne.symm hj)
 refine⟨fun hi=>?_,fun hi=>by rw[e,hL]at hi;cases hi⟩
 obtain⟨h1,h2⟩:=h.pre hL
 refine⟨h1.trans (hb.mono h1.size),fun p hp hl=>?_⟩
 by_cases x:p.1=j
 ·have hu:upd t j v p.1=v:=by simp[upd,x]
  rw[hu]
  exact hv p hp x
 rw[jM L x]at hl
 have hu:upd t j v p.1=t p.1:=by simp[upd,x]
 rw[hu]
 exact p.2.stays _ _ _ hb (h2 p hp hl)
theorem call {v:Value} (hz:Z w'):GW i w3 ks Z (did L i) (upd t i v) w':=
 ⟨fun hi=>(by rw[oU]at hi;cases hi),fun _=>hz⟩
end
end Go.Proofs.YtmpeaoacaecgpaaGreatDoor.Fq
namespace Go.Proofs.YtmpeaoacaecgpaaGreatDoor.agZ
open Go.RowKit Base Base2 Base3 Regs cO Cb iH uw xH ajY TL
open Go.Proofs.YtmpeaoacaecgpaaGreatDoor.Fq (GW)
def bkeep (lo:Nat) (L K:List UInt8):Keep:=⟨fun v w=>∃g,v=.pointer (some ⟨g,0,none⟩)∧lo≤g∧iH lo w g L K,fun _ _ _ hb ⟨g,h1,h2,h3⟩=>⟨g,h1,h2,h3.below hb⟩⟩
def more (m:SM) (g:Nat) (L K:List UInt8):SM:={m with last:=m.last+1,kY:=m.kY++[(m.last+1,g)],bl:=fun k=>if k=g then(L,K)else m.bl k}
theorem VB (m:SM) (g:Nat) (L K:List UInt8) {k:Nat} (h:Live m k) (hg:¬Live m g):(if k=g then(L,K)else m.bl k)=m.bl k:=if_neg (fun e:k=g=>hg (by rw[←e];exact h))
theorem Sj (m:SM) (g:Nat) (L K:List UInt8) (hg:¬Live m g):total (more m g L K)=total m+L.length:=by
 unfold total more
 simp only[List.map_append,List.sum_append,List.map_cons,List.map_nil,List.sum_cons,List.sum_nil,if_true]
 have:(m.kY.map fun p=>(if p.2=g then(L,K)else m.bl p.2).1.length)=m.kY.map fun p=>(m.bl p.2).1.length:=List.map_congr_left fun p hp=>by rw[VB m g L K (.inl ⟨p,hp,rfl⟩) hg]
 rw[this]
 omega
theorem alx {m:SM} (h:Fit m) (g:Nat) (L K:List UInt8) (hg:¬Live m g) (hr:m.kY.length<m.qo) (hq:total m+L.length≤m.bytes):Fit (more m g L K) where
 tn:=by show(m.kY++[(m.last+1,g)]).length≤m.qo;simp;omega
 b64:=h.b64
 un:=h.un
 u64:=h.u64
 sum:=by rw[Sj m g L K hg];exact hq
 cap:=h.cap
 ord := by
  have key:∀i j (hi:i<(m.kY++[(m.last+1,g)]).length) (hj:j<(m.kY++[(m.last+1,g)]).length),i<j→((m.kY++[(m.last+1,g)])[i]).1<((m.kY++[(m.last+1,g)])[j]).1:=fun i j hi hj hij=>by
   have hj':=hj
   simp only[List.length_append,List.length_cons,List.length_nil]at hj'
   rw[List.getElem_append_left (by omega)]
   by_cases e:j<m.kY.length
   ·rw[List.getElem_append_left e];exact h.ord i j (by omega) e hij
   ·rw[List.getElem_append_right (by omega)]
    have:=(h.top _ (List.getElem_mem (show i<m.kY.length by omega))).2
    simp only[List.getElem_singleton]
    omega
  exact key
 top:=fun p hp=>by
  have hp':p ∈ m.kY++[(m.last+1,g)]:=hp
  rw[List.mem_append]at hp'
  rcases hp' with hp'|hp'
  ·have:=h.top p hp';exact⟨this.1,Nat.le_succ_of_le this.2⟩
  ·rw[List.mem_singleton]at hp'
   rw[hp']
   exact⟨Nat.succ_le_succ (Nat.zero_le _),Nat.le_refl _⟩
theorem ahU {m:SM} {g:Nat} {L K:List UInt8} {k:Nat} (h:Live (more m g L K) k):k=g∨Live m k:=by
 rcases h with⟨p,hp,rfl⟩|h
 ·have hp':p ∈ m.kY++[(m.last+1,g)]:=hp
  rw[List.mem_append]at hp'
  rcases hp' with hp'|hp'
  ·exact .inr (.inl ⟨p,hp',rfl⟩)
  rw[List.mem_singleton]at hp'
  rw[hp']
  exact .inl rfl
 exact .inr (.inr h)
theorem Bh.live_lt {B gs gt gu gm:Nat} {m:SM} {w:World} (h:Bh B gs gt gu gm m w) {g:Nat} (hg:Live m g):g<w.heap.size:=(h.blo g hg).lt
theorem ac6 {B gs gt gu gm:Nat} {m:SM} {wq:World} (h:Bh B gs gt gu gm m wq) {lo g:Nat} {L K:List UInt8} (hB:B≤lo) (hb:iH lo wq g L K) (hg:¬Live m g):∀k,Live (more m g L K) k→iH B wq k ((more m g L K).bl k).1 ((more m g L K).bl k).2:=fun k hk=>by
 show iH B wq k (if k=g then(L,K)else m.bl k).1 (if k=g then(L,K)else m.bl k).2
 rcases ahU hk with rfl|hk
 ·rw[if_pos rfl];exact hb.low hB
 rw[VB m g L K hk hg];exact h.blo k hk
theorem ahg (B gs gt gu gm:Nat) (m:SM) (A:Option Addr) (n cap:Nat) (L0:List UInt8) (s:ByteArray) (w:World) (h:Bh B gs gt gu gm m w) (hR:aY w A n (ah L0)) (hn:n≤100000000) (hs:s.size≤maxLen) (hq:total m+n≤m.bytes) (hr:m.kY.length<m.qo) (hl:m.last≤100000):
  Calls Tryz.prog 91 #[.pointer (some ⟨gs,0,none⟩),.slice A n cap,.string s] w fun e w'=>∃g,e=.returned (.tuple #[.int .i64 ((m.last:Int)+1),.int .i64 0])∧w.heap.size≤g∧Bh B gs gt gu gm (more m g L0 (kd s.data.toList)) w'∧Below B w w'∧Ks w w':=by
 have NU:Hid (B≤w.heap.size):=h.size
 have TA:=hid h
 have HR0:=hid hR
 obtain⟨c0,c1,c2,c3⟩:=h.facts
 have sQ:Hid (gs<w.heap.size):=h.lt
 have hcap:total m≤1048576:=Nat.le_trans h.fit.sum h.fit.cap
 have HQ:Hid (decide ((m.bytes:Int)<(total m:Int)+(n:Int))=false):=by show _=_;first|(rw[decide_eq_true];omega)|(rw[decide_eq_false];omega)
 clear h hR
 go_enter Tryz.func91,Tryz.ntmps91
 go_upto_region 3 with(fail)
 refine aV (by kernel_rfl) [is (.pointer (some ⟨gs,0,none⟩)),is (.int .i64 (total m:Int)),is (.slice A n cap),is (.int .i64 (n:Int)),is (.int .i64 ((total m:Int)+(n:Int))),is (.pointer (some ⟨gs,0,none⟩)),is (.pointer (some ⟨gs,0,none⟩)),is (.pointer (some ⟨gs,0,none⟩)),is (.int .i64 (m.bytes:Int)),is (.bool (decide ((m.bytes:Int)<(total m:Int)+(n:Int))))] [[],[0],[],[2],[1,3],[],[5],[6],[7],[4,8]] (by kernel_rfl) ?_ ?_
 ·refine⟨?_,?_,?_,?_,?_,?_,?_,?_,?_,?_,trivial⟩
  all_goals(intro t wq hbq hh K hK;simp only[filled,upd,Have,is,any,row,pick,Act.put,List.setIfInBounds_toArray,List.set_cons_zero,List.set_cons_succ,Nat.reduceAdd,Nat.reduceEqDiff,reduceIte,List.tail_cons,List.headD_cons]at hh hK⊢;(try simp only[hh]at hK⊢);try clear hh)
  ·go_simp;exact hK _ _ (Below.refl _ _) rfl
  ·go_simp;refine(TK.qw B gs gt gu gm m _ (TA.out.below hbq)).mono ?_;rintro e w9 ⟨rfl,mG⟩;exact hK _ _ mG rfl
  iterate 2 · go_simp;exact hK _ _ (Below.refl _ _) rfl
  ·go_simp;first|exact hK _ _ (Below.refl _ _) rfl|exact hK _ _ (Below.refl _ _) (iC (by omega) (by omega))
  iterate 3 · go_simp;exact hK _ _ (Below.refl _ _) rfl
  ·have hq:=(hbq.cell (p:=⟨gs,0,none⟩) sQ.out).trans c0;go_simp;exact hK _ _ (Below.refl _ _) rfl
  ·go_simp;go_simp;exact hK _ _ (Below.refl _ _) rfl
 ·intro t wq hbq hh
  have f9:=aB hh 9 (by decide)
  simp only[pick]at f9
  replace f9:t 9=(.bool (decide ((m.bytes:Int)<(total m:Int)+(n:Int)))):=f9
  clear hh
  simp only[filled,upd,Have,is,any,row,pick,Act.put,List.setIfInBounds_toArray,List.set_cons_zero,List.set_cons_succ,Nat.reduceAdd,Nat.reduceEqDiff,reduceIte]
  simp only[f9]
  rw[HQ.out]
  have NV:=hid (TA.out.below hbq)
  have HR3:=hid (HR0.out.below hbq)
  have HB3:=hid hbq
  have agM:Hid (gs<wq.heap.size):=NV.out.lt
  clear hbq c0 c1 c2 c3 TA HR0 sQ
  obtain⟨c0,c1,c2,c3⟩:=NV.out.facts
  clear c0 c2 c3
  have HNL:Hid (L0.length=n):=by show _=_;rw[←aI];exact HR3.out.1
  generalize hw3:wq=w3 at NV HR3 HB3 agM c1⊢
  clear hw3 hcap HQ
  skip
  go_upto_region 5 with(fail)
  have HZ:Hid (∀a b:World,Below a.heap.size a b→(∃g,w3.heap.size≤g∧Bh B gs gt gu gm (more m g L0 (kd s.data.toList)) a∧Below B w a∧Ks w a)→(∃g,w3.heap.size≤g∧Bh B gs gt gu gm (more m g L0 (kd s.data.toList)) b∧Below B w b∧Ks w b)):=fun a b hb hz=>by
   obtain⟨g,z1,z2,z3,z4⟩:=hz
   exact⟨g,z1,z2.below hb,z3.trans (hb.mono z2.size),z4.trans (Ks.below hb)⟩
  refine jc (by kernel_rfl) (GW 7 w3 [(6,bkeep w3.heap.size L0 (kd s.data.toList))] fun wr=>∃g,w3.heap.size≤g∧Bh B gs gt gu gm (more m g L0 (kd s.data.toList)) wr∧Below B w wr∧Ks w wr) [is (.pointer (some ⟨gs,0,none⟩)),is (.pointer (some ⟨gs,0,none⟩)),is (.pointer (some ⟨gs,1,none⟩)),is (.pointer (some ⟨gt,0,none⟩)),is (.slice A n cap),is (.string s),any,is (.tuple #[.int .i64 ((m.last:Int)+1),.int .i64 0]),is (.int .i64 ((m.last:Int)+1)),is (.int .i64 0),is (.int .i64 ((m.last:Int)+1)),is (.int .i64 0)] [[],[0],[1],[2],[],[],[4,5],[3,6],[7],[7],[8],[9]] (by kernel_rfl) (by repeat (first|exact rP|refine wO _ ?_|refine nD ?_)) ?_ ?_ ?_
  ·exact fun t=>Fq.GW.beg 7 w3 _ _ t
  ·refine ⟨?_,?_,?_,?_,?_,?_,?_,?_,?_,?_,?_,?_,trivial⟩
   all_goals(intro L t wq hG hL hC hN hh K hK;simp only[filled,upd,Have,is,any,row,pick,Act.put,List.setIfInBounds_toArray,List.set_cons_zero,List.set_cons_succ,Nat.reduceAdd,Nat.reduceEqDiff,reduceIte,List.tail_cons,List.headD_cons]at hh hK⊢)
   ·(try clear hh);go_simp;exact hK _ _ rfl (Fq.Un HZ.out 0 rfl (Below.refl _ _) hG)
   ·simp only[hh]at hK⊢;clear hh;go_simp;exact hK _ _ rfl (Fq.Un HZ.out 1 rfl (Below.refl _ _) hG)
   ·simp only[hh]at hK⊢;clear hh;go_simp;exact hK _ _ rfl (Fq.Un HZ.out 2 rfl (Below.refl _ _) hG)
   ·simp only[hh]at hK⊢
    clear hh
    have h7:L 7=false:=by
     cases h:L 7 with
     |false=>rfl
     |true=>exact absurd (hC 7 h 3 (by decide)) (by rw[hL];simp)
    have hq:=((hG.pre h7).1.cell (p:=⟨gs,1,none⟩) agM.out).trans c1
    go_simp
    exact hK _ _ rfl (Fq.Un HZ.out 3 rfl (Below.refl _ _) hG)
   ·(try clear hh);go_simp;exact hK _ _ rfl (Fq.Un HZ.out 4 rfl (Below.refl _ _) hG)
   ·(try clear hh);go_simp;exact hK _ _ rfl (Fq.Un HZ.out 5 rfl (Below.refl _ _) hG)
   ·simp only[hh]at hK⊢
    clear hh
    go_simp
    have h7:L 7=false:=by
     cases h:L 7 with
     |false=>rfl
     |true=>exact absurd (hC 7 h 6 (by decide)) (by rw[hL];simp)
    have hp6:=(hG.pre h7).1
    refine(amx A n cap L0 s _ (HR3.out.below hp6) (by omega) hs).mono ?_
    rintro e w9 ⟨g,rfl,hg,hk,mG⟩
    refine hK _ _ trivial (Fq.keep hG h7 6 (by decide) mG fun p hp _=>?_)
    rw[List.mem_singleton]at hp
    subst hp
    exact⟨g,rfl,Nat.le_trans hp6.size hg,hk.low hp6.size⟩
   ·simp only[hh]at hK⊢
    clear hh
    obtain⟨hp7,hq7⟩:=hG.pre hL
    obtain⟨g,e6,hg,hbk⟩:=hq7 _ (List.mem_singleton.2 rfl) (hN 6 (by decide))
    simp only at e6
    simp only[e6]at hK⊢
    go_simp
    have HKq:=NV.out.below hp7
    refine(TbB.put_any B gt m.qo m.last m.kY g _ HKq.tab hr HKq.fit.b64 hl).mono ?_
    rintro e w6 ⟨rfl,hT,hb,hk⟩
    have hnl:¬Live m g:=fun hl=>by have:=Bh.live_lt NV.out hl;omega
    have hz:∃g,w3.heap.size≤g∧Bh B gs gt gu gm (more m g L0 (kd s.data.toList)) w6∧Below B w w6∧Ks w w6:=⟨g,hg,Bh.tab' (m':=more m g L0 (kd s.data.toList)) HKq hk hT (ac6 HKq NV.out.size hbk hnl) (alx HKq.fit g L0 _ hnl hr (by rw[HNL.out];exact hq)) rfl rfl rfl rfl rfl,(HB3.out.mono NU.out).trans ((hp7.mono NV.out.size).trans hb),(Ks.below (bel HB3.out hp7)).trans (Ks.tab hk)⟩
    exact hK _ _ rfl (Fq.call hz)
   ·simp only[hh]at hK⊢;clear hh;go_simp;exact hK _ _ rfl (Fq.Un HZ.out 8 rfl (Below.refl _ _) hG)
   ·simp only[hh]at hK⊢;clear hh;go_simp;exact hK _ _ rfl (Fq.Un HZ.out 9 rfl (Below.refl _ _) hG)
   ·simp only[hh]at hK⊢;clear hh;go_simp;exact hK _ _ rfl (Fq.Un HZ.out 10 rfl (Below.refl _ _) hG)
   ·simp only[hh]at hK⊢;clear hh;go_simp;exact hK _ _ rfl (Fq.Un HZ.out 11 rfl (Below.refl _ _) hG)
  ·intro Lz t wq hG hall hh
   have f10:=aB hh 10 (by decide)
   simp only[pick]at f10
   replace f10:t 10=(.int .i64 ((m.last:Int)+1)):=f10
   have f11:=aB hh 11 (by decide)
   simp only[pick]at f11
   replace f11:t 11=(.int .i64 0):=f11
   clear hh
   simp only[filled,upd,Have,is,any,row,pick,Act.put,List.setIfInBounds_toArray,List.set_cons_zero,List.set_cons_succ,Nat.reduceAdd,Nat.reduceEqDiff,reduceIte]
   simp only[f10,f11]
   obtain⟨g,z1,z2,z3,z4⟩:=hG.post (hall 7 (by decide))
   have Z1:=hid z1
   have Z2:=hid z2
   have Z3:=hid z3
   have Z4:=hid z4
   have TD:Hid (w.heap.size≤w3.heap.size):=HB3.out.size
   clear hG hall z1 z2 z3 z4 c1
   go_wp2
   go_ret2
   exact⟨g,rfl,Nat.le_trans TD.out Z1.out,Z2.out,Z3.out,Z4.out⟩
end Go.Proofs.YtmpeaoacaecgpaaGreatDoor.agZ
namespace Go.Proofs.YtmpeaoacaecgpaaGreatDoor.PthK
open Go.RowKit Base Base2 PthJ Regs
theorem lK (w:World) (s:ByteArray) (p:Nat):Below w.heap.size w (w.iter s p):=(Below.refl _ _).alloc (Nat.le_refl _) _
theorem fF (r:Int) (w:World) (h0:128≤r):Calls Tryz.prog 333 #[.int .i32 r] w fun e w'=>e=.returned (.bool (validRune r))∧w=w':=by
 have q0:(0:Int)≤r:=by omega
 by_cases h1:r<55296
 ·have HV:Hid (validRune r=true):=decide_eq_true (.inl ⟨q0,h1⟩)
  go_enter Tryz.func333,Tryz.ntmps333
  go_wp2
  go_ret
  exact⟨ak HV.out.symm,rfl⟩
 by_cases h2:57343<r
 ·by_cases h3:r≤1114111
  ·have HV:Hid (validRune r=true):=decide_eq_true (.inr ⟨h2,h3⟩)
   go_enter Tryz.func333,Tryz.ntmps333
   go_wp2
   go_ret
   exact⟨ak HV.out.symm,rfl⟩
  have HV:Hid (validRune r=false):=decide_eq_false (by omega)
  go_enter Tryz.func333,Tryz.ntmps333
  go_wp2
  go_ret
  exact⟨ak HV.out.symm,rfl⟩
 have HV:Hid (validRune r=false):=decide_eq_false (by omega)
 go_enter Tryz.func333,Tryz.ntmps333
 go_wp2
 go_ret
 exact⟨ak HV.out.symm,rfl⟩
def two:ByteArray:=⟨#[47,92]⟩
theorem D7 (r:Int) (w:World) (h0:128≤r):Calls Tryz.prog 298 #[.string two,.int .i32 r] w fun e w'=>e=.returned (.int .i64 (-1))∧Below w.heap.size w w':=by
 have q0:(0:Int)≤r:=by omega
 have q1:¬r<128:=by omega
 obtain⟨T,hT⟩:∃T,T=two:=⟨_,rfl⟩
 have hsz:T.size=2:=by rw[hT];rfl
 have g0:∀h,T[0]'h=47:=by subst hT;intro h;rfl
 have g1:∀h,T[1]'h=92:=by subst hT;intro h;rfl
 rw[←hT]
 by_cases hE:r=65533
 ·subst hE
  have hn0:∀ty,(Instr.next (.pointer (some ⟨w.heap.size,0,none⟩)) true ty).run Tryz.prog (w.iter T 0)=.ok (.tuple #[.bool true,.int .i64 0,.int .i32 47]) (w.iter T 1):=fun ty=>by
   have:=run_next_ascii (P:=Tryz.prog) w T 0 ty (by omega) (by rw[g0];decide)
   rw[g0]at this
   exact this
  have hn1:∀ty,(Instr.next (.pointer (some ⟨w.heap.size,0,none⟩)) true ty).run Tryz.prog (w.iter T 1)=.ok (.tuple #[.bool true,.int .i64 1,.int .i32 92]) (w.iter T 2):=fun ty=>by
   have:=run_next_ascii (P:=Tryz.prog) w T 1 ty (by omega) (by rw[g1];decide)
   rw[g1]at this
   exact this
  have hn2:∀ty,(Instr.next (.pointer (some ⟨w.heap.size,0,none⟩)) true ty).run Tryz.prog (w.iter T 2)=.ok (.tuple #[.bool false]) (w.iter T 2):=fun ty=>run_next_end w T 2 ty (by omega)
  clear hT g0 g1 hsz
  go_enter Tryz.func298,Tryz.ntmps298
  go_wp2
  go_loopg [5,6] 2 (fun g _ _ wx=>∃i:Nat,i+g=2∧wx=w.iter T i)
  case atStart=>exact⟨0,rfl,rfl⟩
  case round=>
   obtain⟨i,hig,rfl⟩:=hrel
   cases gk with
   |zero=>
    obtain rfl:i=2:=by omega
    go_wp2
    go_ret
    exact⟨rfl,lK _ _ _⟩
   |succ g=>
    cases g with
    |zero=>
     obtain rfl:i=1:=by omega
     go_wp2
     go_roundg 0
     case measure=>omega
     case rel=>exact⟨2,rfl,rfl⟩
    |succ g=>
     obtain rfl:g=0:=by omega
     obtain rfl:i=0:=by omega
     go_wp2
     go_roundg 1
     case measure=>omega
     case rel=>exact⟨1,rfl,rfl⟩
 cases hv:validRune r with
 |false=>
  have HV:=hid hv
  clear hT g0 g1 hsz hv
  go_enter Tryz.func298,Tryz.ntmps298
  go_wp2_with fail
  refine(fF r _ h0).mono ?_
  rintro e w2 ⟨rfl,rfl⟩
  rw[HV.out]
  go_wp2
  go_ret
  exact⟨rfl,Below.refl _ _⟩
 | true=>
  have HV:=hid hv
  obtain⟨hE2,hE4,hEl⟩:=encode_facts r (by rw[validRune_eq];exact hv) h0
  obtain⟨E,hEE⟩:∃E,E=Utf8.encode r:=⟨_,rfl⟩
  rw[←hEE]at hE2 hE4 hEl
  have hcv:∀w:World,(convert 21 9 (.int .i32 r)).run Tryz.prog w=.ok (.string E) w:=fun w=>by
   rw[hEE]
   exact run_convert_int_string w _ _ .i32 r (by rw[Tryz.underlying21];rfl) Tryz.underlying9
  clear hT hv hEE
  by_cases h2:E.size=2
  ·obtain ⟨c,hc⟩:∃c,c=E[1]'(by omega):=⟨_,rfl⟩
   have hc128:128≤c.toNat:=by
    have:=hEl (by omega)
    rw[hc]
    have e:E.size - 1=1:=by omega
    simpa[e]using this
   have g92:=g1 (by omega)
   have hne:((92:Int) !=(c.toNat:Int))=true:=by simp;omega
   have HC:=hid hc128
   have hcE:E[1]'(by omega)=c:=hc.symm
   have hz:(E.size:Int) - 1=1:=by omega
   clear hEl hE2 hE4 hc hc128 g0
   go_enter Tryz.func298,Tryz.ntmps298
   go_wp2_with fail
   refine(fF r _ h0).mono ?_
   rintro e w2 ⟨rfl,rfl⟩
   rw[HV.out]
   go_wp2
   go_step3
   go_wp2
   go_loopg [9] 0 (fun _ s9 wx=>s9=.int .i64 1∧wx=w)
   case atStart=>exact⟨int_eq (by omega),rfl⟩
   case round=>
    obtain⟨rfl,rfl⟩:=hrel
    go_wp2
    go_step3
    go_wp2
    go_region
    go_wp2_with fail
    refine aV (by kernel_rfl) [is (.string T),is (.int .i64 1),is (.int .i64 2),is (.string ByteArray.empty),is (.string E),is (.int .i64 1),is (.int .u8 (c.toNat:Int)),is (.int .i64 (-1)),is (.int .i64 (-1))] [[],[],[1],[0,2],[],[],[4,5],[3,6],[7]] (by kernel_rfl) ?_ ?_
    ·refine⟨?_,?_,?_,?_,?_,?_,?_,?_,?_,trivial⟩
     all_goals(intro t wq hbq hh K hK;simp only[filled,upd,Have,is,any,row,pick,Act.put,List.setIfInBounds_toArray,List.set_cons_zero,List.set_cons_succ,Nat.reduceAdd,Nat.reduceEqDiff,reduceIte,List.tail_cons,List.headD_cons]at hh hK⊢;(try simp only[hh]at hK⊢);try clear hh)
     iterate 2 · go_simp;exact hK _ _ (Below.refl _ _) rfl
     ·go_simp;first|exact hK _ _ (Below.refl _ _) rfl|exact hK _ _ (Below.refl _ _) (iC (by omega) (by omega))
     iterate 4 · go_simp;exact hK _ _ (Below.refl _ _) rfl
     ·go_simp;refine(Tryz.strings_IndexByte ByteArray.empty _ _).mono ?_;rintro e wz ⟨rfl,hwz⟩;subst hwz;exact hK _ _ (Below.refl _ _) rfl
     go_simp;exact hK _ _ (Below.refl _ _) rfl
    intro t wq hbq hh
    have f8:=aB hh 8 (by decide)
    simp only[pick]at f8
    replace f8:t 8=(.int .i64 (-1)):=f8
    clear hh
    simp only[filled,upd,Have,is,any,row,pick,Act.put,List.setIfInBounds_toArray,List.set_cons_zero,List.set_cons_succ,Nat.reduceAdd,Nat.reduceEqDiff,reduceIte]
    simp only[f8]
    go_wp2
    rw[Exit.noGoto_ret]
    go_simp
    go_ret
    exact⟨rfl,CY (Below.refl _ _) hbq⟩
  have h3:3≤E.size:=by omega
  clear hEl g0 g1 h2
  have q3:¬((E.size:Int) - 1<2):=by omega
  go_enter Tryz.func298,Tryz.ntmps298
  go_wp2_with fail
  refine(fF r _ h0).mono ?_
  rintro e w2 ⟨rfl,rfl⟩
  rw[HV.out]
  go_wp2
  go_step3
  go_wp2
  go_loopg [9] 0 (fun _ s9 wx=>s9=.int .i64 ((E.size:Int) - 1)∧wx=w)
  case atStart=>exact⟨rfl,rfl⟩
  case round=>
   obtain⟨rfl,rfl⟩:=hrel
   go_wp2
   rw[Exit.noGoto_ret]
   go_ret
   exact⟨rfl,Below.refl _ _⟩
theorem vJ (r:Int) (w:World) (h0:0≤r) (h1:r<128):Calls Tryz.prog 298 #[.string two,.int .i32 r] w fun e w'=>e=.returned (.int .i64 (Lib.indexByte two.data.toList r.toNat.toUInt8))∧w'=w:=Any.strings_IndexRune_ascii {Tryz.l153 with} two r w h0 h1
theorem abL (c:UInt8) (h:128≤c.toNat) (sp:Bool):gB sp c=false:=by
 have h1:c≠47:=by rintro rfl;exact absurd h (by decide)
 have h2:c≠92:=by rintro rfl;exact absurd h (by decide)
 unfold gB
 rw[decide_eq_false h1,decide_eq_false h2]
 cases sp<;>rfl
theorem Qq (s:ByteArray) (i:Nat) (h:i<s.size):(s.get! i)=s[i]'h:=by
 simp[ByteArray.get!,getElem!_pos,h]
 rfl
theorem wide (s:ByteArray) (i:Nat) (h:i<s.size) (ha:128≤(s[i]'h).toNat):i+(Utf8.decode s i).2≤s.size∧∀j (hj:j<s.size),i≤j→j<i+(Utf8.decode s i).2→128≤(s[j]'hj).toNat:=by
 have hn:¬(s[i]'h).toNat<128:=by omega
 have one:i+1≤s.size∧∀j (hj:j<s.size),i≤j→j<i+1→128≤(s[j]'hj).toNat:=⟨by omega,fun j hj h1 h2=>by
  obtain rfl:j=i:=by omega
  exact ha⟩
 simp only[Utf8.decode,get_at s i h,hn,if_false]
 have c1:∀k,(decide (i+k<s.size)&&(s.get! (i+k)).toNat / 64==2)=true→∃hk:i+k<s.size,128≤(s[i+k]'hk).toNat:=fun k hk=>by
  simp only[Bool.and_eq_true,decide_eq_true_eq,beq_iff_eq]at hk
  refine⟨hk.1,?_⟩
  have:=hk.2
  rw[Qq s _ hk.1]at this
  omega
 split
 ·rename_i h2
  simp only[Bool.and_eq_true]at h2
  obtain⟨k1,b1⟩:=c1 1 (by simpa using h2.2)
  split
  ·refine⟨by show i+2≤_;omega,fun j hj h1 h2=>?_⟩
   replace h2:j<i+2:=h2
   have:j=i∨j=i+1:=by omega
   rcases this with rfl|rfl
   ·exact ha
   exact b1
  exact one
 split
 ·rename_i h2
  simp only[Bool.and_eq_true]at h2
  obtain⟨k1,b1⟩:=c1 1 (by simpa using h2.1.2)
  obtain⟨k2,b2⟩:=c1 2 (by simpa using h2.2)
  split
  ·refine⟨by show i+3≤_;omega,fun j hj h1 h2=>?_⟩
   replace h2:j<i+3:=h2
   have:j=i∨j=i+1∨j=i+2:=by omega
   rcases this with rfl|rfl|rfl
   ·exact ha
   ·exact b1
   exact b2
  exact one
 split
 ·rename_i h2
  simp only[Bool.and_eq_true]at h2
  obtain⟨k1,b1⟩:=c1 1 (by simpa using h2.1.1.2)
  obtain⟨k2,b2⟩:=c1 2 (by simpa using h2.1.2)
  obtain⟨k3,b3⟩:=c1 3 (by simpa using h2.2)
  split
  ·refine⟨by show i+4≤_;omega,fun j hj h1 h2=>?_⟩
   replace h2:j<i+4:=h2
   have:j=i∨j=i+1∨j=i+2∨j=i+3:=by omega
   rcases this with rfl|rfl|rfl|rfl
   ·exact ha
   ·exact b1
   ·exact b2
   exact b3
  exact one
 exact one
def ZJ (w:World) (k:Nat) (s:ByteArray) (p:Nat):World:={w with heap:=w.heap.setIfInBounds k (.stringIter s p)}
theorem Pz (w:World) (k:Nat) (s:ByteArray) (p:Nat) (h:k<w.heap.size):(ZJ w k s p).heap[k]?=some (.stringIter s p):=by
 show(w.heap.setIfInBounds k _)[k]?=_
 simp[h]
theorem yC {w0 w:World} (h:Below w0.heap.size w0 w) (s:ByteArray) (p:Nat):Below w0.heap.size w0 (ZJ w w0.heap.size s p):=
 ⟨h.os,h.tape,h.output,by show _≤(w.heap.setIfInBounds _ _).size;simpa using h.size,fun k hk=>by
  show(w.heap.setIfInBounds _ _)[k]?=_
  rw[Array.getElem?_setIfInBounds_ne (by omega)]
  exact h.block k hk⟩
theorem next_any {P:Program} (w:World) (k:Nat) (s:ByteArray) (pos:Nat) (ty:TypeId) (hk:w.heap[k]?=some (.stringIter s pos)) (h:pos<s.size):
  (Instr.next (.pointer (some ⟨k,0,none⟩)) true ty).run P w=.ok (.tuple #[.bool true,.int .i64 pos,.int .i32 (Utf8.decode s pos).1]) (ZJ w k s (pos+(Utf8.decode s pos).2)):=by
 simp only[Instr.next,getObj,setObj,Sem.run_bind,Sem.run,hk,Result.andThen,h,if_true]
 simp[goInt,ZJ]
theorem DI {P:Program} (w:World) (k:Nat) (s:ByteArray) (pos:Nat) (ty:TypeId) (hk:w.heap[k]?=some (.stringIter s pos)) (h:¬pos<s.size):
  (Instr.next (.pointer (some ⟨k,0,none⟩)) true ty).run P w=.ok (.tuple #[.bool false]) w:=by
 simp[Instr.next,getObj,Sem.run,hk,h]
theorem short_any (s:ByteArray) (w:World) (h8:s.size≤8):
  Calls Tryz.prog 271 #[.string s,.string two] w fun e w'=>e=.returned (.int .i64 (Lib.indexAny s.data.toList [47,92]))∧Below w.heap.size w w':=by
 have hemp:two.toList.isEmpty=false:=by unfold two;rw[ByteArray.toList_mk];rfl
 have hsz2:((two.size:Int)==1)=false:=rfl
 have h8z:decide ((8:Int)<(s.size:Int))=false:=decide_eq_false (by omega)
 have hL:s.data.toList.length=s.size:=Array.length_toList
 have HL:=hid hL
 clear hL
 have Du:=vJ
 have Dw:=D7
 obtain⟨T,hT⟩:∃T,T=two:=⟨_,rfl⟩
 rw[←hT]at Du Dw
 have MB:=hid Du
 have Zg:=hid Dw
 clear Du Dw
 rw[←hT]at hemp hsz2⊢
 have HT:=hid hT
 clear hT
 go_enter Tryz.func271,Tryz.ntmps271
 go_wp2_with fail
 refine(Any.strings_shouldUseASCIISet {Tryz.l153 with} _ _).mono ?_
 rintro e w2 ⟨rfl,hw2⟩
 subst hw2
 rw[h8z]
 go_wp2
 go_loopg [9,10] s.size (fun g _ _ wx=>∃i:Nat,i≤s.size∧s.size≤i+g∧wx.heap[w2.heap.size]?=some (.stringIter s i)∧Hid (Below w2.heap.size w2 wx)∧Hid (Lib.NoAny s.data.toList [47,92] i))
 case atStart=>exact⟨0,Nat.zero_le _,by omega,World.iter_heap _ _ _,lK _ _ _,Lib.NoAny.zero _ _⟩
 case round=>
  obtain⟨i,hile,hig,hit,HB,HN⟩:=hrel
  have FD:w2.heap.size<wr.heap.size:=(Array.getElem?_eq_some_iff.1 hit).1
  by_cases hi:i<s.size
  ·obtain ⟨g,rfl⟩:∃g,gk=g+1:=⟨gk - 1,by omega⟩
   obtain⟨x,hx⟩:∃x:UInt8,s[i]'hi=x:=⟨_,rfl⟩
   have hxl:s.data.toList[i]?=some x:=by rw[←hx];exact Lib.data_getElem? s i hi
   have hnx:=fun ty=>next_any (P:=Tryz.prog) wr w2.heap.size s i ty hit hi
   obtain⟨r,hr⟩:∃r:Nat,r=(Utf8.decode s i).1:=⟨_,rfl⟩
   obtain⟨d,hd⟩:∃d:Nat,d=(Utf8.decode s i).2:=⟨_,rfl⟩
   rw[←hr,←hd]at hnx
   obtain⟨wa,bI⟩:∃wa,wa=ZJ wr w2.heap.size s (i+d):=⟨_,rfl⟩
   have hia:wa.heap[w2.heap.size]?=some (.stringIter s (i+d)):=by rw[bI];exact Pz _ _ _ _ FD
   have HBA:Hid (Below w2.heap.size w2 wa):=by show Below _ _ _;rw[bI];exact yC HB.out _ _
   have hka:w2.heap.size<wa.heap.size:=(Array.getElem?_eq_some_iff.1 hia).1
   rw[←bI]at hnx
   have HIA:=hid hia
   have HKA:=hid hka
   clear bI hit FD hia hka
   by_cases hx128:x.toNat<128
   ·obtain rfl:d=1:=by rw[hd,decode_ascii s i hi (by rw[hx];exact hx128)]
    obtain rfl:r=x.toNat:=by rw[hr,decode_ascii s i hi (by rw[hx];exact hx128),hx]
    have Hx:=hid hxl
    have HBK:Hid (((x.toNat:Int)).toNat.toUInt8=x):=by show _=_;simp
    have Y4:=hid (Lib.contains_iff_indexByte [47,92] x)
    have hx0:(0:Int)≤(x.toNat:Int):=by omega
    clear hxl hx hr hd
    cases hin:([47,92]:List UInt8).contains x
    ·have hlt:¬((0:Int)≤Lib.indexByte T.data.toList x):=by rw[HT.out];exact of_decide_eq_false (Y4.out.symm.trans hin)
     have Y7:=hid hin
     clear hin
     go_wp2_with fail
     refine(MB.out _ _ hx0 (by omega)).mono ?_
     rintro e w3 ⟨rfl,hw3⟩
     subst hw3
     rw[HBK.out]
     go_wp2
     go_roundg g
     case measure=>omega
     case rel=>exact⟨i+1,by omega,by omega,HIA.out,HBA,HN.out.succ Hx.out Y7.out⟩
    ·have hlt:(0:Int)≤Lib.indexByte T.data.toList x:=by rw[HT.out];exact of_decide_eq_true (Y4.out.symm.trans hin)
     have Y7:=hid hin
     clear hin
     go_wp2_with fail
     refine(MB.out _ _ hx0 (by omega)).mono ?_
     rintro e w3 ⟨rfl,hw3⟩
     subst hw3
     rw[HBK.out]
     go_wp2
     go_ret
     exact⟨by rw[Lib.indexAny_hit HN.out Hx.out Y7.out];rfl,HBA.out⟩
   ·obtain ⟨aaw,hpos⟩:=decode_high s i hi (by rw[hx];omega)
    have HWD:=wide s i hi (by rw[hx];omega)
    rw[←hr]at aaw
    rw[←hd]at hpos HWD
    have HNX:Hid (Lib.NoAny s.data.toList [47,92] (i+d)):=fun j b hj hb=>by
     by_cases hji:j<i
     ·exact HN.out j b hji hb
     ·obtain⟨hjs,e⟩:=List.getElem?_eq_some_iff.1 hb
      have aax:j<s.size:=by rw[HL.out]at hjs;exact hjs
      have:=HWD.2 j aax (by omega) hj
      have hb':s[j]'aax=b:=e
      rw[hb']at this
      have:=abL b this true
      rw[←afd]at this
      exact this
    have hid1:=HWD.1
    have ajw:Hid (128≤(r:Int)):=by show _≤_;omega
    clear hr hd HWD hx hxl aaw
    go_wp2_with fail
    refine(Zg.out _ _ ajw.out).mono ?_
    rintro e w3 ⟨rfl,hb3⟩
    have HI3:Hid (w3.heap[w2.heap.size]?=some (.stringIter s (i+d))):=(hb3.block _ HKA.out).trans HIA.out
    have HB3:Hid (Below w2.heap.size w2 w3):=bel HBA.out hb3
    clear hb3
    go_wp2
    go_roundg g
    case measure=>omega
    case rel=>exact⟨i+d,by omega,by omega,HI3.out,HB3,HNX⟩
  ·obtain rfl:i=s.size:=by omega
   have hnx:=fun ty=>DI (P:=Tryz.prog) wr w2.heap.size s s.size ty hit hi
   go_wp2
   go_ret
   exact⟨by rw[Lib.indexAny_none (by rw[HL.out];exact HN.out)];rfl,HB.out⟩
end Go.Proofs.YtmpeaoacaecgpaaGreatDoor.PthK
