/- Texts that belong together: Regp, uw, TbB, xH, Kq, ES, WX, iH, MaiA, ajY, TL, TK, OpqA, OpqB, OpqC, aj6, aj3, StoI, ajr, WV, FetC, StkF, StkH, xC, ajh. -/
import Derived.Test.YtmpeaoacaecgpaaGreatDoorXAH
import Derived.Test.YtmpeaoacaecgpaaGreatDoorXAG
import Derived.Laws.OwnMore
import Derived.Laws.CopyRow
import Derived.BigQuiet
import Derived.Deep.QuietTactic
import Derived.Deep.WholeRow
import Derived.Test.YtmpeaoacaecgpaaGreatDoorXAM
import Derived.Test.YtmpeaoacaecgpaaGreatDoorXAJ
import Derived.Test.YtmpeaoacaecgpaaGreatDoorXAA
import Derived.Lib.SliceRun
import Derived.Conc.LoneCalls
import Derived.Conc.LoneSelectN
import Derived.KernelRfl
import Derived.WalkSmall
import Derived.Test.YtmpeaoacaecgpaaGreatDoorXAQ
import Derived.Test.YtmpeaoacaecgpaaGreatDoorXAR
import Derived.Lib.SlTrimSet
import Derived.Test.YtmpeaoacaecgpaaGreatDoorXAC
import Derived.Test.YtmpeaoacaecgpaaGreatDoorShelf
import Derived.Laws.Rows
import Derived.Test.YtmpeaoacaecgpaaGreatDoorXAP
import Derived.Defers
import Derived.Recover
import Derived.Test.YtmpeaoacaecgpaaGreatDoorXAE
import Derived.Test.YtmpeaoacaecgpaaGreatDoorXAN
import Derived.Laws.IdiomStrings
import Derived.Shelf.Strings.BuilderF
import Derived.Deep.DeepCutAuto
import Derived.Lib.SlBytesConst
set_option linter.unusedSimpArgs false
set_option linter.unusedVariables false
set_option maxRecDepth 100000
set_option maxHeartbeats 64000000
namespace Go.Proofs.YtmpeaoacaecgpaaGreatDoor.Regs
open Go.RowKit Base
section
variable {P:Program} {md:Region.Mode} {ops:Array Oper} {Q:Exit→Act→World→Prop}
def YA (md:Region.Mode) (ops:Array Oper) (ns:List (List Nat)) (n:Nat) (pre:List Nat):Bool:=
 decide (n<ops.size)&&DF md ops ns&&((List.range n).all fun k=>pre.contains k||(ns.getD n []).contains k)&&
 ((List.range ops.size).all fun i=>decide (i≤n)||match ops[i]? with
  |none=>false
  |some o=>o.after.any fun e=>Region.binds md e&&decide (n≤e.on))&&
 Region.seqB md ops (ops.size - n) n (List.replicate n true++List.replicate (ops.size - n) false).toArray
theorem SY {A:(Nat→Value)→Act} {w0:World} {R:List Keep} {ns:List (List Nat)} {n:Nat} {pre:List Nat} (hB:YA md ops ns n pre=true) (steps:Steps P ops Q A w0 R 0 (ops.toList.take n) ns)
  (fin:∀t w,Below w0.heap.size w0 w→Have R t w (List.range n)→wpList P ops Q (ops.toList.drop n) (A t) w):
  ∀(fuel:Nat) (listed:Array Bool) (t:Nat→Value) (w:World),InvT ops w0 R ns n listed t w→(∀k ∈ pre,listed.getD k false=true)→YV ops listed=fuel→wpAny P md ops Q fuel listed (A t) w:=by
 unfold YA at hB
 simp only[Bool.and_eq_true,decide_eq_true_eq]at hB
 obtain⟨⟨⟨⟨hn,hN⟩,hall⟩,hch⟩,hseq⟩:=hB
 -- all of the head is listed:the tail,in its order
 have done : ∀ (fuel : Nat) (listed : Array Bool) (t : Nat → Value) (w : World), InvT ops w0 R ns n listed t w → YV ops listed = fuel → (∀ i, i < n → listed.getD i false = true) → wpAny P md ops Q fuel listed (A t) w := by
  intro fuel listed t w h hu hl
  have he:listed=(List.replicate n true++List.replicate (ops.size - n) false).toArray:=by
   apply Array.ext
   ·simp[h.size];omega
   ·intro i h1 h2
    have hsz:=h.size
    simp only[List.getElem_toArray]
    by_cases hi:i<n
    ·have:=hl i hi
     simp[Array.getD,h1]at this
     rw[List.getElem_append_left (by simpa using hi)]
     simpa using this
    ·have:=h.tail i (by omega)
     simp[Array.getD,h1]at this
     rw[List.getElem_append_right (by simpa using hi)]
     simpa using this
  have hf:fuel=(ops.toList.drop n).length:=by
   rw[←hu]
   unfold YV
   have e:ops.size=n+(ops.size - n):=by omega
   rw[e,List.range_add,List.countP_append]
   have z1:(List.range n).countP (fun i=> !listed.getD i true)=0:=by
    rw[List.countP_eq_zero]
    intro i hi
    have hin:=List.mem_range.1 hi
    rw[wP (by rw[h.size];omega) true false,hl i hin]
    decide
   have z2:((List.range (ops.size - n)).map (n+·)).countP (fun i=> !listed.getD i true)=((List.range (ops.size - n)).map (n+·)).length:=by
    rw[List.countP_eq_length]
    intro i hi
    obtain⟨j,hj,rfl⟩:=List.mem_map.1 hi
    have hjn:=List.mem_range.1 hj
    rw[wP (by rw[h.size];omega) true false,h.tail (n+j) (by omega)]
    rfl
   rw[z1,z2]
   simp
  have hw:=fin t w h.below (o8 _ fun k hk=>(h.held k (hl k (by simpa using hk))).1)
  rw[hf]
  refine wpAny_of_seq (md:=md) (ops.toList.drop n) n listed (A t) w (fun j=>by simp[List.getElem?_drop]) ?_ hw
  rw[he]
  simpa using hseq
 intro fuel
 induction fuel with
 |zero=>
  intro listed t w h _ hu
  refine done 0 listed t w h hu fun i hi=>?_
  cases e:listed.getD i false with
  |true=>rfl
  |false=>
   have:=qR h.size (show i<ops.size by omega) (by rw[wP (by rw[h.size];omega) true false];exact e)
   omega
 | succ fuel ih=>
  intro listed t w h hpre hu
  by_cases hl:∀i,i<n→listed.getD i false=true
  ·exact done (fuel+1) listed t w h hu hl
  have hr0:Region.ready md ops listed≠[]:=fun hr=>hl fun i hi=>uU hN h.size hr (i+1) i (by omega) (by omega)
  refine⟨fun h0=>absurd h0 hr0,fun i hi=>?_⟩
  obtain⟨h0,o,ho,hafter⟩:=mem_ready.1 hi
  have hlt:=(Array.getElem?_eq_some_iff.1 ho).1
  have wQ:∀k ∈ ns.getD i [],listed.getD k false=true:=fun k hk=>by
   obtain⟨e,he,hb,hk⟩:=(vK hN ho).2 k hk
   rcases hk with rfl|hk
   ·exact hafter e he hb
   ·exact(h.held e.on (hafter e he hb)).2 k hk
  have hin:i<n:=by
   rcases Nat.lt_trichotomy i n with hlt'|rfl|hgt
   ·exact hlt'
   ·exact absurd (fun k hk=>by
     have h1:=List.all_eq_true.1 hall k (List.mem_range.2 hk)
     simp only[Bool.or_eq_true,List.contains_iff_mem]at h1
     exact h1.elim (fun h1=>hpre k h1) (fun h1=>wQ k h1)) hl
   ·have h1:=List.all_eq_true.1 hch i (List.mem_range.2 hlt)
    simp only[ho,Bool.or_eq_true,decide_eq_true_eq]at h1
    rcases h1 with h1|h1
    ·omega
    ·obtain⟨e,he,hb⟩:=Array.any_eq_true'.1 h1
     simp only[Bool.and_eq_true,decide_eq_true_eq]at hb
     have h2:=hafter e he hb.1
     rw[h.tail e.on hb.2]at h2
     cases h2
  have hst:=Steps.at (ops.toList.take n) 0 ns steps i o (by rw[List.getElem?_take,if_pos hin];simpa using ho)
  rw[Nat.zero_add]at hst
  refine wpOp_step ho fun K hK=>hst t w h.below (o8 _ fun k hk=>(h.held k (wQ k hk)).1) K fun v w' hb hv=>hK _ _ (ih _ _ _ ⟨⟨h.below.trans (hb.mono h.below.size),by simpa using h.size,fun j hj=>?_⟩,fun j hj=>?_⟩ (fun k hk=>getD_set_true (hpre k hk)) ?_)
  ·by_cases hji:j=i
   ·subst hji
    refine⟨by simpa[upd]using hv,fun k hk=>getD_set_true (wQ k hk)⟩
   ·rw[getD_set_ne false (Ne.symm hji)]at hj
    have:=h.held j hj
    refine⟨by simp only[upd,if_neg hji];exact(pick R j).stays _ _ _ hb this.1,fun k hk=>getD_set_true (this.2 k hk)⟩
  ·rw[getD_set_ne false (by omega)]
   exact h.tail j hj
  ·have:=qR h.size hlt h0
   omega
def anE (k:Nat) (listed:Array Bool) (ns:List (List Nat)) (n:Nat) (pre:List Nat):Bool:=
 decide (listed.size=k)&&((List.range k).all fun i=>listed.getD i false==pre.contains i)&&(pre.all fun i=>decide (i<n)&&(ns.getD i []).all fun j=>pre.contains j)
theorem ab7 {l:List Oper} {a:Act} {w:World} (n:Nat) (R:List Keep) (ns:List (List Nat)) (pre:List Nat) {listed:Array Bool} {fuel:Nat} (hB:YA .any l.toArray ns n pre=true) (hS:anE l.length listed ns n pre=true) (hF:YV l.toArray listed=fuel)
  (h0:∀k ∈ pre,(pick R k).says (now (l.take n) a k) w)
  (steps:Steps P l.toArray Q (fun t=>aj t n l 0 a) w R 0 (l.take n) ns)
  (fin:∀t w',Below w.heap.size w w'→Have R t w' (List.range n)→wpList P l.toArray Q (l.drop n) (aj t n l 0 a) w'):wpAny P .any l.toArray Q fuel listed a w:=by
 unfold anE at hS
 simp only[Bool.and_eq_true,decide_eq_true_eq]at hS
 obtain⟨⟨hsz,hl⟩,hp⟩:=hS
 have hin:∀i,listed.getD i false=pre.contains i:=fun i=>by
  by_cases hi:i<l.length
  ·have:=List.all_eq_true.1 hl i (List.mem_range.2 hi)
   simpa using this
  ·have h1:listed.getD i false=false:=by simp[Array.getD,hsz,hi]
   have h2:pre.contains i=false:=by
    cases e:pre.contains i with
    |false=>rfl
    |true=>
     have:=List.all_eq_true.1 hp i (by simpa using e)
     simp only[Bool.and_eq_true,decide_eq_true_eq]at this
     have hn:n<l.toArray.size:=by
      unfold YA at hB
      simp only[Bool.and_eq_true,decide_eq_true_eq]at hB
      exact hB.1.1.1.1
     simp at hn
     omega
   rw[h1,h2]
 have h := SY (P := P) (Q := Q) (md := .any) (ops := l.toArray) (A := fun t => aj t n l 0 a) (w0 := w) (R := R) (ns := ns) (n := n) (pre := pre) hB (by simpa using steps) (by simpa using fin) fuel listed (now (l.take n) a) w
  ⟨⟨Below.refl _ _,by simpa using hsz,fun i hi=>by
   rw[hin]at hi
   have hm:i ∈ pre:=by simpa using hi
   have:=List.all_eq_true.1 hp i hm
   simp only[Bool.and_eq_true,decide_eq_true_eq]at this
   exact⟨h0 i hm,fun k hk=>by rw[hin];exact List.all_eq_true.1 this.2 k hk⟩⟩,fun i hi=>by
    rw[hin]
    cases e:pre.contains i with
    |false=>rfl
    |true=>
     have:=List.all_eq_true.1 hp i (by simpa using e)
     simp only[Bool.and_eq_true,decide_eq_true_eq]at this
     omega⟩ (fun k hk=>by rw[hin];simpa using hk) hF
 have e:aj (now (l.take n) a) n l 0 a=a:=by rw[Aa];exact uY a (l.take n) (l.take n) 0 (fun j=>by simp)
 have h':wpAny P .any l.toArray Q fuel listed (aj (now (l.take n) a) n l 0 a) w:=h
 rwa[e]at h'
end
end Go.Proofs.YtmpeaoacaecgpaaGreatDoor.Regs
namespace Go.Proofs.YtmpeaoacaecgpaaGreatDoor.uw
open Go.RowKit Base Base2 Base3 Regs
def nT (g:Nat):Value:=.pointer (some ⟨g,0,none⟩)
section
variable {α:Type} (enc:α→Value)
def flat (l:List (Nat×α)):List Value:=l.flatMap fun p=>[.int .i64 (p.1:Int),enc p.2]
end
def Ny (T E:TypeId) {α:Type} (enc:α→Value) (B g room last:Nat) (l:List (Nat×α)) (w:World):Prop:=∃v,w.heap[g]?=some (.cells #[.int .i64 (room:Int),.int .i64 (last:Int),v] T (0,0))∧w.ownsRow B E 2 v l.length (flat enc l)∧B≤g
section
variable {T E:TypeId} {α:Type} {enc:α→Value} {B g room last:Nat} {l:List (Nat×α)} {w w':World}
theorem Ny.lt (h:Ny T E enc B g room last l w):g<w.heap.size:=by obtain⟨v,h,_⟩:=h;exact(Array.getElem?_eq_some_iff.1 h).1
theorem Ny.below (h:Ny T E enc B g room last l w) (hb:Below w.heap.size w w'):Ny T E enc B g room last l w':=by
 have hl:=h.lt
 obtain⟨v,h1,h2,h3⟩:=h
 exact⟨v,(hb.block g hl).trans h1,aP h2 hb,h3⟩
end
theorem cells3 {w:World} {g:Nat} {a b c:Value} {T:TypeId} {mk:Nat×Nat} (h:w.heap[g]?=some (.cells #[a,b,c] T mk)):w.cell? ⟨g,0,none⟩=some a∧w.cell? ⟨g,1,none⟩=some b∧w.cell? ⟨g,2,none⟩=some c:=
 ⟨(cell_of_row w g 0 _ _ _ h).trans rfl,(cell_of_row w g 1 _ _ _ h).trans rfl,(cell_of_row w g 2 _ _ _ h).trans rfl⟩
end Go.Proofs.YtmpeaoacaecgpaaGreatDoor.uw
namespace Go.Proofs.YtmpeaoacaecgpaaGreatDoor.TbB
open Go.RowKit Base Base2 Base3 Regs uw
theorem new_any (n:Nat) (h1:1≤n) (h2:n≤64) (w:World):Calls Tryz.prog 191 #[.int .i64 (n:Int)] w fun e w'=>∃g,e=.returned (.tuple #[.pointer (some ⟨g,0,none⟩),.int .i64 0])∧Ny 240 248 (uw.nT) w.heap.size g n 0 [] w'∧Below w.heap.size w w':=by
 have q1:¬(n:Int)<1:=by omega
 have q2:¬(64:Int)<(n:Int):=by omega
 go_enter Tryz.func191,Tryz.ntmps191
 go_wp2
 go_ret2
 exact⟨_,rfl,⟨_,heap_alloc_new w _,World.ownsRow_nil _ _ _ _,Nat.le_refl _⟩,(Below.refl _ _).alloc (Nat.le_refl _) _⟩
end Go.Proofs.YtmpeaoacaecgpaaGreatDoor.TbB
namespace Go.Proofs.YtmpeaoacaecgpaaGreatDoor.xH
open Go.RowKit Base Base2 Base3 Regs uw
structure Bc (α:Type) where
 url:ByteArray
 s:ByteArray
 h:ByteArray
 p:Int
 n:Int
 x:α
section
variable {α:Type} (enc:α→Value)
def rw6 (e:Bc α):List Value:=[.string e.url,.string e.s,.string e.h,.int .i64 e.p,.int .i64 e.n,enc e.x]
def flat (l:List (Bc α)):List Value:=l.flatMap (rw6 enc)
end
def IsS (T E:TypeId) {α:Type} (enc:α→Value) (B g room:Nat) (l:List (Bc α)) (w:World):Prop:=∃v,w.heap[g]?=some (.cells #[.int .i64 (room:Int),v] T (0,0))∧w.ownsRow B E 6 v l.length (flat enc l)∧B≤g
section
variable {T E:TypeId} {α:Type} {enc:α→Value} {B g room:Nat} {l:List (Bc α)} {w w':World}
theorem IsS.lt (h:IsS T E enc B g room l w):g<w.heap.size:=by obtain⟨v,h,_⟩:=h;exact(Array.getElem?_eq_some_iff.1 h).1
theorem IsS.below (h:IsS T E enc B g room l w) (hb:Below w.heap.size w w'):IsS T E enc B g room l w':=by
 have hl:=h.lt
 obtain⟨v,h1,h2,h3⟩:=h
 exact⟨v,(hb.block g hl).trans h1,aP h2 hb,h3⟩
end
end Go.Proofs.YtmpeaoacaecgpaaGreatDoor.xH
namespace Go.Proofs.YtmpeaoacaecgpaaGreatDoor.Kq
open Go.RowKit Base Base2 aZ mW
def OB (w:World) (g:Nat) (s h:ByteArray) (p n:Int):Prop:=w.heap[g]?=some (.cells #[.string s,.string h,.int .i64 p,.int .i64 n] 38 (0,0))
section
variable {w w':World} {g:Nat} {s h:ByteArray} {p n:Int}
theorem OB.lt (x:OB w g s h p n):g<w.heap.size:=(Array.getElem?_eq_some_iff.1 x).1
theorem OB.below (x:OB w g s h p n) (hb:Below w.heap.size w w'):OB w' g s h p n:=(hb.block g x.lt).trans x
end
end Go.Proofs.YtmpeaoacaecgpaaGreatDoor.Kq
namespace Go.Proofs.YtmpeaoacaecgpaaGreatDoor.ES
open Go.RowKit Base
variable {w:World}
theorem fJ {ops:Array Oper} {rest:List Oper} {p:Oper} {a:Act} {Q:Exit→Act→World→Prop} {ty:TypeId} {ad:Addr} {v:Value} (hl:(loadVar ty ad).run Tryz.prog w=.ok v w) (x:Operand) (ho:p.op=.load ty x) (hgd:p.guard=none) (hx:a.eval x=.pointer (some ad))
  (h:wpList Tryz.prog ops Q rest (a.put p.dst v) w):wpList Tryz.prog ops Q (p::rest) a w:=
 wpList_plain hgd fun _ hK=>by
  unfold Oper.wp execOp
  simp only[ho,hx,Instr.loadAt,Instr.sureAddr,Sem.run_bind,Sem.run_pure,Result.andThen_ok,hl]
  exact hK _ _ h
end Go.Proofs.YtmpeaoacaecgpaaGreatDoor.ES
namespace Go.Proofs.YtmpeaoacaecgpaaGreatDoor.WX
open Go.RowKit Base Base2 Base3 Regs uw xH Kq mW ES
theorem new_any (n:Nat) (h1:1≤n) (h2:n≤64) (w:World):Calls Tryz.prog 192 #[.int .i64 (n:Int)] w fun e w'=>∃g,e=.returned (.tuple #[.pointer (some ⟨g,0,none⟩),.int .i64 0])∧IsS 243 353 (uw.nT) w.heap.size g n [] w'∧Below w.heap.size w w':=by
 have q1:¬(n:Int)<1:=by omega
 have q2:¬(64:Int)<(n:Int):=by omega
 go_enter Tryz.func192,Tryz.ntmps192
 go_wp2
 go_ret2
 exact⟨_,rfl,⟨_,heap_alloc_new w _,World.ownsRow_nil _ _ _ _,Nat.le_refl _⟩,(Below.refl _ _).alloc (Nat.le_refl _) _⟩
end Go.Proofs.YtmpeaoacaecgpaaGreatDoor.WX
namespace Go.Proofs.YtmpeaoacaecgpaaGreatDoor.iH
open Go.RowKit Base Base2 Base3 cO uw
def iH (lo:Nat) (w:World) (g:Nat) (L K:List UInt8):Prop:=
 ∃v,lo≤g∧w.heap[g]?=some (.cells #[v,.string (strOf K)] 250 (0,0))∧w.ownsRow lo 5 1 v L.length (ah L)
end Go.Proofs.YtmpeaoacaecgpaaGreatDoor.iH
namespace Go.Proofs.YtmpeaoacaecgpaaGreatDoor.MaiA
open Go.Conc Go.RowKit Base Base2
def M2 (t:TypeId) (w:World) (g cu cp:Nat):Prop:=w.heap[g]?=some (.cells #[.chan (some cu),.chan (some cp)] t (0,0))
def Box (w:World) (c cap:Nat) (buf:Array Value) (s r:Nat):Prop:=w.heap[c]?=some (.chan cap buf false s r false)
end Go.Proofs.YtmpeaoacaecgpaaGreatDoor.MaiA
namespace Go.Proofs.YtmpeaoacaecgpaaGreatDoor.ajY
open Go.Conc Go.RowKit Base Base2 MaiA
def MS (t:TypeId) (B:Nat) (w:World) (g cap:Nat) (U P:List Value):Prop:=∃cu cp s r s' r',M2 t w g cu cp∧Box w cu cap U.toArray s r∧Box w cp cap P.toArray s' r'∧cu≠cp∧B≤g∧B≤cu∧B≤cp
theorem akX {w:World} {c cap s r:Nat} {buf:Array Value} (h:Box w c cap buf s r):c<w.heap.size:=(Array.getElem?_eq_some_iff.1 h).1
theorem m2_lt {t:TypeId} {w:World} {g cu cp:Nat} (h:M2 t w g cu cp):g<w.heap.size:=(Array.getElem?_eq_some_iff.1 h).1
theorem MS.below {t:TypeId} {B:Nat} {w w':World} {g cap:Nat} {U P:List Value} (h:MS t B w g cap U P) (hb:Below w.heap.size w w'):MS t B w' g cap U P:=by
 obtain⟨cu,cp,s,r,s',r',h1,h2,h3,rest⟩:=h
 exact⟨cu,cp,s,r,s',r',(hb.block _ (m2_lt h1)).trans h1,(hb.block _ (akX h2)).trans h2,(hb.block _ (akX h3)).trans h3,rest⟩
theorem abW (w:World) (a b c:Obj):((((w.alloc a).alloc b).alloc c).heap[w.heap.size]?=some a∧(((w.alloc a).alloc b).alloc c).heap[w.heap.size+1]?=some b∧(((w.alloc a).alloc b).alloc c).heap[w.heap.size+2]?=some c):=by
 refine⟨?_,?_,?_⟩
 ·rw[Below.heap_alloc _ _ _ (by simp;omega),Below.heap_alloc _ _ _ (by simp)];exact heap_alloc_new w _
 ·rw[Below.heap_alloc _ _ _ (by simp)]
  have:=heap_alloc_new (w.alloc a) b
  simpa only[World.size_alloc]using this
 have:=heap_alloc_new ((w.alloc a).alloc b) c
 simpa only[World.size_alloc]using this
theorem infoS:∃i,Tryz.prog.info? 9=some i∧i.bytes=16:=by
 have h:(Tryz.prog.info? 9).map (·.bytes)=some 16:=by kernel_rfl
 obtain⟨i,hi,hb⟩:=Option.map_eq_some_iff.1 h
 exact⟨i,hi,hb⟩
theorem mkS (n:Nat) (hn:n≤64) (w:World):(Instr.makeChan 244 (.int .i64 (n:Int))).run Tryz.prog w=.ok (.chan (some w.heap.size)) (w.alloc (.chan n #[] false 0 0 false)):=by
 obtain⟨i,hi,hb⟩:=infoS
 exact run_makeChan (P:=Tryz.prog) (w:=w) Tryz.underlying244 hi .i64 n (by omega) (by rw[hb];omega)
theorem newS (n:Nat) (h1:1≤n) (hn:n≤64) (w:World):Calls Tryz.prog 193 #[.int .i64 (n:Int)] w fun e w'=>∃g,e=.returned (.tuple #[.pointer (some ⟨g,0,none⟩),.int .i64 0])∧MS 246 w.heap.size w' g n [] []∧Below w.heap.size w w':=by
 have hmc:=mkS n hn
 have h1i:¬(n:Int)<1:=by omega
 have h2i:¬(64:Int)<(n:Int):=by omega
 go_enter Tryz.func193,Tryz.ntmps193
 go_wp2_with fail
 go_region
 ·go_wp2
  go_ret2
  obtain⟨t0,t1,t2⟩:=abW w (.chan n #[] false 0 0 false) (.chan n #[] false 0 0 false) (.cells #[.chan (some w.heap.size),.chan (some (w.heap.size+1))] 246 (0,0))
  exact⟨_,rfl,⟨_,_,0,0,0,0,t2,t0,t1,by omega,by omega,by omega,by omega⟩,((((Below.refl _ _).alloc (Nat.le_refl _) _).alloc (by simp) _).alloc (by simp;omega) _).drew⟩
 go_wp2
 go_ret2
 obtain⟨t0,t1,t2⟩:=abW w (.chan n #[] false 0 0 false) (.chan n #[] false 0 0 false) (.cells #[.chan (some (w.heap.size+1)),.chan (some w.heap.size)] 246 (0,0))
 exact⟨_,rfl,⟨_,_,0,0,0,0,t2,t1,t0,by omega,by omega,by omega,by omega⟩,((((Below.refl _ _).alloc (Nat.le_refl _) _).alloc (by simp) _).alloc (by simp;omega) _).drew⟩
end Go.Proofs.YtmpeaoacaecgpaaGreatDoor.ajY
namespace Go.Proofs.YtmpeaoacaecgpaaGreatDoor.TL
open Go.RowKit Base Base2 uw xH iH ajY
structure SM where
 bytes:Nat
 qo:Nat
 Ep:Nat
 last:Nat
 kY:List (Nat×Nat)
 urls:List (Bc Nat)
 U:List Value
 P:List Value
 bl:Nat→List UInt8×List UInt8
def total (m:SM):Nat:=(m.kY.map fun p=>(m.bl p.2).1.length).sum
def Live (m:SM) (g:Nat):Prop:=(∃p ∈ m.kY,p.2=g)∨∃e ∈ m.urls,e.x=g
structure Fit (m:SM):Prop where
 tn:m.kY.length≤m.qo
 b64:m.qo≤64
 un:m.urls.length≤m.Ep
 u64:m.Ep≤64
 sum:total m≤m.bytes
 cap:m.bytes≤1048576
 ord:∀i j (hi:i<m.kY.length) (hj:j<m.kY.length),i<j→m.kY[i].1<m.kY[j].1
 top:∀p ∈ m.kY,1≤p.1∧p.1≤m.last
abbrev TT:TypeId:=240
abbrev TE:TypeId:=248
abbrev ST:TypeId:=243
abbrev SE:TypeId:=353
structure Bh (B gs gt gu gm:Nat) (m:SM) (w:World):Prop where
 top:w.heap[gs]?=some (.cells #[.int .i64 (m.bytes:Int),.pointer (some ⟨gt,0,none⟩),.pointer (some ⟨gu,0,none⟩),.pointer (some ⟨gm,0,none⟩)] 194 (0,0))
 tab:Ny TT TE uw.nT B gt m.qo m.last m.kY w
 sto:IsS ST SE uw.nT B gu m.Ep m.urls w
 mai:MS 246 B w gm m.Ep m.U m.P
 blo:∀g,Live m g→iH B w g (m.bl g).1 (m.bl g).2
 lo:B≤gs
 fit:Fit m
section
variable {B gs gt gu gm:Nat} {m:SM} {w w':World}
end
end Go.Proofs.YtmpeaoacaecgpaaGreatDoor.TL
namespace Go.Proofs.YtmpeaoacaecgpaaGreatDoor.TK
open Go.RowKit Base Base2 Base3 Regs cO iH uw xH ajY TL
theorem ist_low {B B' g r n:Nat} {l:List (Nat×Nat)} {w:World} (h:Ny TT TE uw.nT B g r n l w) (hb:B'≤B):Ny TT TE uw.nT B' g r n l w:=by
 obtain⟨v,a,b,c⟩:=h
 exact⟨v,a,ay b hb,Nat.le_trans hb c⟩
theorem iss_low {B B' g r:Nat} {l:List (Bc Nat)} {w:World} (h:IsS ST SE uw.nT B g r l w) (hb:B'≤B):IsS ST SE uw.nT B' g r l w:=by
 obtain⟨v,a,b,c⟩:=h
 exact⟨v,a,ay b hb,Nat.le_trans hb c⟩
theorem ms_low {t:TypeId} {B B' g cap:Nat} {U P:List Value} {w:World} (h:MS t B w g cap U P) (hb:B'≤B):MS t B' w g cap U P:=by
 obtain⟨cu,cp,s,r,s',r',a,b,c,d,e,f,g⟩:=h
 exact⟨cu,cp,s,r,s',r',a,b,c,d,Nat.le_trans hb e,Nat.le_trans hb f,Nat.le_trans hb g⟩
def nil0 (n b u:Nat):SM:=⟨n,b,u,0,[],[],[],[],fun _=>([],[])⟩
theorem amy (b u n:Nat) (hb1:1≤b) (hb2:b≤64) (hu1:1≤u) (hu2:u≤64) (hn:n≤1048576) (w:World):Calls Tryz.prog 90 #[.agg #[.int .i64 (b:Int),.int .i64 (u:Int),.int .i64 (n:Int)]] w fun e w'=>∃gs gt gu gm,e=.returned (.tuple #[.pointer (some ⟨gs,0,none⟩),.int .i64 0])∧Bh w.heap.size gs gt gu gm (nil0 n b u) w'∧Below w.heap.size w w':=by
 have q1:¬(n:Int)<0:=by omega
 have q2:¬(1048576:Int)<(n:Int):=by omega
 go_enter Tryz.func90,Tryz.ntmps90
 go_upto_region 1 with(fail)
 generalize bI:World.alloc w _=v1
 have h1_:v1.heap[w.heap.size]?=some (.cells #[.int .i64 (b:Int),.int .i64 (u:Int),.int .i64 (n:Int)] 107 (0,0))∧Below w.heap.size w v1:=by
  subst bI
  exact⟨heap_alloc_new w _,(Below.refl _ _).alloc (Nat.le_refl _) _⟩
 clear bI
 have X1:=hid h1_.1
 have HB1:=hid h1_.2
 clear h1_
 obtain⟨c0,c1,c2⟩:=cells3 X1.out
 go_wp2_with fail
 refine(TbB.new_any b hb1 hb2 _).mono ?_
 rintro e w2 ⟨gt,rfl,hT,hb⟩
 have HT2:=hid hT
 have HB2:=hid (bel HB1.out hb)
 have X2:=hid ((hb.block _ (Array.getElem?_eq_some_iff.1 X1.out).1).trans X1.out)
 have HL2:Hid (w.heap.size≤v1.heap.size):=HB1.out.size
 clear hT hb c0 c1 c2 X1
 obtain⟨c0,c1,c2⟩:=cells3 X2.out
 go_wp2_with fail
 refine(WX.new_any u hu1 hu2 _).mono ?_
 rintro e w3 ⟨gu,rfl,hS,hb⟩
 have TD:=hid hS
 have HT3:=hid (HT2.out.below hb)
 have HB3:=hid (bel HB2.out hb)
 have X3:=hid ((hb.block _ (Array.getElem?_eq_some_iff.1 X2.out).1).trans X2.out)
 have HL3:Hid (w.heap.size≤w2.heap.size):=HB2.out.size
 clear hS hb c0 c1 c2 X2 HT2
 obtain⟨c0,c1,c2⟩:=cells3 X3.out
 go_wp2_with fail
 refine(newS u hu1 hu2 _).mono ?_
 rintro e w4 ⟨gm,rfl,hM,hb⟩
 have HM4:=hid hM
 have HS4:=hid (TD.out.below hb)
 have HT4:=hid (HT3.out.below hb)
 have HB4:=hid (bel HB3.out hb)
 have X4:=hid ((hb.block _ (Array.getElem?_eq_some_iff.1 X3.out).1).trans X3.out)
 have HL4:Hid (w.heap.size≤w3.heap.size):=HB3.out.size
 clear hM hb c0 c1 c2 X3 HT3 TD
 obtain⟨c0,c1,c2⟩:=cells3 X4.out
 go_wp2
 go_ret2
 have hb5:=(Below.refl w4.heap.size w4).alloc (Nat.le_refl _) (.cells #[.int .i64 (n:Int),.pointer (some ⟨gt,0,none⟩),.pointer (some ⟨gu,0,none⟩),.pointer (some ⟨gm,0,none⟩)] 194)
 exact⟨w4.heap.size,gt,gu,gm,rfl,⟨heap_alloc_new w4 _,ist_low (HT4.out.below hb5) HL2.out,iss_low (HS4.out.below hb5) HL3.out,ms_low (HM4.out.below hb5) HL4.out,fun g hg=>absurd hg (by rintro(⟨p,h,_⟩|⟨p,h,_⟩)<;>cases h),HB4.out.size,⟨Nat.zero_le _,hb2,Nat.zero_le _,hu2,Nat.zero_le _,hn,fun i j hi=>absurd hi (Nat.not_lt_zero _),fun p hp=>(by cases hp)⟩⟩,bel HB4.out hb5⟩
end Go.Proofs.YtmpeaoacaecgpaaGreatDoor.TK
namespace Go.Proofs.YtmpeaoacaecgpaaGreatDoor.OpqA
open Go.RowKit Base Regs Base2 dI cO PthG PthH PthJ UrlA PrsP yw tN Fp mW Pbx tK yx jQ sU pO TI aj9
theorem aif (p:Parts) (w:World) (hs:p.rest.length≤900000) (h47:Lib.hasPrefix p.rest [47]=false) (h32:Lib.hasSuffix (EscE.enc 0 p.rest) [32]=false):Calls Tryz.prog 119 #[.agg (bQ p)] w (mO w (some {U0 with au:=p.au,port:= -1,opq:=true,txt:=EscE.enc 0 p.rest})):=by
 obtain⟨s,r,q,f,hq,hf⟩:=p
 simp only at hs h47 h32⊢
 obtain⟨E,hE⟩:∃E,E=EscE.enc 0 r:=⟨_,rfl⟩
 rw[←hE]at h32⊢
 obtain⟨O,hO⟩:∃O,O=some ({U0 with au:=s,port:= -1,opq:=true,txt:=E}:U):=⟨_,rfl⟩
 rw[←hO]
 have h472:Lib.hasPrefix r [47,47]=false:=by
  unfold Lib.hasPrefix at h47⊢
  cases r with
  |nil=>rfl
  |cons c t=>simp only[List.isPrefixOf,Bool.and_true]at h47⊢;rw[h47];rfl
 have HP2:Hid (∀w:World,Calls Tryz.prog 103 #[.string (strOf r),.string ⟨#[47,47]⟩] w fun e w'=>e=.returned (.bool false)∧w'=w):=fun w=>by rw[←h472];exact Tryz.strings_HasPrefix (strOf r) ⟨#[47,47]⟩ w
 have yc:Hid (∀w:World,Calls Tryz.prog 103 #[.string (strOf r),.string ⟨#[47]⟩] w fun e w'=>e=.returned (.bool false)∧w'=w):=fun w=>by rw[←h47];exact Tryz.strings_HasPrefix (strOf r) ⟨#[47]⟩ w
 have hEl:E.length≤3000000:=by rw[hE];have:=EscE.iW 0 r;omega
 have F6:Hid (∀(A:Option Addr) (n c:Nat) (w:World),aY w A n (ah r)→n≤1073741824→Calls Tryz.prog 121 #[.int .i64 0,.slice A n c] w fun e w'=>e=.returned (.string (strOf E))∧Below w.heap.size w w'):=fun A n c w h1 h2=>by rw[hE];exact EscE.eF 0 A n c r w h1 h2
 obtain⟨TS,hTS⟩:∃x,x=Lib.trimSuffix E [32]:=⟨_,rfl⟩
 have Y5:Hid (∀w:World,Calls Tryz.prog 171 #[.string (strOf E),.string ⟨#[32]⟩] w fun e w'=>e=.returned (.tuple #[.string (strOf TS),.bool false])∧w'=w):=fun w=>by rw[hTS,←h32];exact Tryz.strings_CutSuffix (strOf E) ⟨#[32]⟩ w (by rw[size_strOf];omega)
 have HO:=hid hO
 clear hO h47 h472 h32 hTS hE
 go_enter Tryz.func119,Tryz.ntmps119
 go_upto_region 1 with(fail)
 generalize hw:World.alloc (World.alloc w _) _=w1
 have h1:PB w1 (w.heap.size) (⟨s,r,q,f,hq,hf⟩)∧UB w1 ((w.heap.size+1)) (U0) (.slice none 0 0)∧Below w.heap.size w w1:=by
  subst hw
  exact laid2 w _ _ _ _
 clear hw
 have J8:Hid (w.heap.size≠(w.heap.size+1)):=by show _≠_;omega
 have J9:Hid ((w.heap.size+1)≠w.heap.size):=by show _≠_;omega
 have WL:Hid (w.heap.size≤w.heap.size):=Nat.le_refl _
 have bP:Hid (w.heap.size≤(w.heap.size+1)):=Nat.le_succ _
 have dF:=hid h1.1
 have aW:=hid h1.2.1
 have bM:=hid h1.2.2
 clear h1
 obtain⟨p0,p1,p2,p3,p4,p5⟩:=dF.out.facts
 go_upto_region 7 with(fail)
 generalize hw:World.alloc w1 _=w2
 have h1:UB w2 (w1.heap.size) ({U0 with au:=s,port:= -1}) (.slice none 0 0)∧Below w1.heap.size w1 w2:=by
  subst hw
  exact laid1 w1 _ _
 clear hw
 have hlp:=dF.out.lt
 have jf:Hid (w.heap.size≠w1.heap.size):=by show _≠_;omega
 have Ko:Hid (w1.heap.size≠w.heap.size):=by show _≠_;omega
 clear hlp
 have hlr:=aW.out.lt
 have aX:Hid ((w.heap.size+1)≠w1.heap.size):=by show _≠_;omega
 have nO:Hid (w1.heap.size≠(w.heap.size+1)):=by show _≠_;omega
 clear hlr
 have fK:Hid (w.heap.size≤w1.heap.size):=bM.out.size
 have jE:=hid (dF.out.below h1.2)
 have bK:=hid (aW.out.below h1.2)
 have eX:=hid (bel bM.out h1.2)
 have fZ:=hid h1.1
 clear dF aW bM
 clear h1
 clear p0 p1 p2 p3 p4 p5
 obtain⟨p0,p1,p2,p3,p4,p5⟩:=jE.out.facts
 go_wp2_with fail
 refine(HP2.out _).mono ?_
 rintro e wx ⟨rfl,hwx⟩
 obtain rfl:w2=wx:=by first|exact hwx|exact hwx.symm
 clear hwx
 go_wp2_with fail
 refine(yc.out _).mono ?_
 rintro e wx ⟨rfl,hwx⟩
 obtain rfl:w2=wx:=by first|exact hwx|exact hwx.symm
 clear hwx
 clear p0 p1 p2 p3 p4 p5
 have cx6:=fZ.out.facts.2.2.2.2.2.2.1
 have fx6:=fZ.out.thaw.2.2.2.2.2.2.1
 go_upto_region 3 with(fail)
 have hxp:=(jE.out.set (k:=w1.heap.size) (i:=6) (.bool true) jf.out)
 have hxr:=(bK.out.set (k:=w1.heap.size) (i:=6) (.bool true) aX.out)
 have hxu:=(fZ.out.opq true)
 have hb:=(eX.out.setCell (p:=⟨w1.heap.size,6,none⟩) fK.out (.bool true))
 clear jE bK fZ eX
 clear cx6 fx6
 generalize (World.setCell w2 ⟨w1.heap.size,6,none⟩ (.bool true))=w3 at hxp hxr hxu hb⊢
 have mY:Hid (PB w3 (w.heap.size) (⟨s,r,q,f,hq,hf⟩)):=hxp
 clear hxp
 have bD:Hid (UB w3 ((w.heap.size+1)) (U0) (.slice none 0 0)):=hxr
 clear hxr
 have eY:Hid (UB w3 (w1.heap.size) ({U0 with au:=s,port:= -1,opq:=true}) (.slice none 0 0)):=hxu
 clear hxu
 have cZ:=hid hb
 clear hb
 obtain⟨p0,p1,p2,p3,p4,p5⟩:=mY.out.facts
 have hcv:=fun(w:World) s=>run_bytes_of_string (P:=Tryz.prog) w 9 45 5 s Tryz.underlying9 Tryz.underlying45 Tryz.underlying5
 go_wp2_with fail
 clear hcv
 refine(F6.out _ _ _ _ (fV (strOf r) _ _ _) (dW (by omega))).mono ?_
 rintro e w4 ⟨rfl,hb0⟩
 have hbx:Below w3.heap.size w3 w4:=bel (((Below.refl w3.heap.size w3).alloc (Nat.le_refl _) _).drew) hb0
 clear hb0
 have kT:=hid (mY.out.below hbx)
 have bF:=hid (bD.out.below hbx)
 have bV:=hid (eY.out.below hbx)
 have dD:=hid (bel cZ.out hbx)
 clear mY bD eY cZ
 clear hbx
 clear p0 p1 p2 p3 p4 p5
 have SH:=bV.out.facts.2.2.2.2.2.2.2.1
 have fx7:=bV.out.thaw.2.2.2.2.2.2.2.1
 go_upto_region 4 with(fail)
 have hxp:=(kT.out.set (k:=w1.heap.size) (i:=7) (.string (strOf E)) jf.out)
 have hxr:=(bF.out.set (k:=w1.heap.size) (i:=7) (.string (strOf E)) aX.out)
 have hxu:=(bV.out.txt E)
 have hb:=(dD.out.setCell (p:=⟨w1.heap.size,7,none⟩) fK.out (.string (strOf E)))
 clear kT bF bV dD
 clear SH fx7
 generalize (World.setCell w4 ⟨w1.heap.size,7,none⟩ (.string (strOf E)))=w5 at hxp hxr hxu hb⊢
 have mF:Hid (PB w5 (w.heap.size) (⟨s,r,q,f,hq,hf⟩)):=hxp
 clear hxp
 have bH:Hid (UB w5 ((w.heap.size+1)) (U0) (.slice none 0 0)):=hxr
 clear hxr
 have bJ:Hid (UB w5 (w1.heap.size) ({U0 with au:=s,port:= -1,opq:=true,txt:=E}) (.slice none 0 0)):=hxu
 clear hxu
 have fC:=hid hb
 clear hb
 have SH:=bJ.out.facts.2.2.2.2.2.2.2.1
 go_wp2_with fail
 refine(Y5.out _).mono ?_
 rintro e wx ⟨rfl,hwx⟩
 obtain rfl:w5=wx:=by first|exact hwx|exact hwx.symm
 clear hwx
 go_upto_region 11 with(fail)
 clear SH
 have mX:Hid (O=some {U0 with au:=s,port:= -1,opq:=true,txt:=E}):=HO
 obtain⟨c0,c1,c2',c3,c4,c5,c6,c7,c8,c9,c10,c11,c12⟩:=bJ.out.facts
 go_wp2_with (refine aC bH.out {U0 with au:=s,port:= -1,opq:=true,txt:=E} none 0 0 (.tmp 2) (.tmp 56) rfl rfl rfl rfl ?_)
 try simp only[Exit.inBlock,Exit.then]
 exact bodyPost_ret (w:=World.setRow w5 (w.heap.size+1) (cells {U0 with au:=s,port:= -1,opq:=true,txt:=E} (.slice none 0 0))) (res2 (u:={U0 with au:=s,port:= -1,opq:=true,txt:=E}) (p:=.slice none 0 0) rfl (bH.out.row {U0 with au:=s,port:= -1,opq:=true,txt:=E} _) true _ rfl rfl) rfl (eH (u:={U0 with au:=s,port:= -1,opq:=true,txt:=E}) mX.out (below_setRow fC.out bP.out _) (wY _ _ rfl))
end Go.Proofs.YtmpeaoacaecgpaaGreatDoor.OpqA
namespace Go.Proofs.YtmpeaoacaecgpaaGreatDoor.OpqB
open Go.RowKit Base Regs Base2 dI cO PthG PthH PthJ UrlA PrsP yw tN Fp mW Pbx tK yx WS jQ sU pO TI aj9 OpqA
theorem abr (p:Parts) (w:World) (hs:p.rest.length≤700000) (hs1:p.au≠FILE) (hsp:special p.au=false) (h0:p.au≠[]) (h47:Lib.hasPrefix p.rest [47]=false) (h32:Lib.hasSuffix (EscE.enc 0 p.rest) [32]=false):Calls Tryz.prog 50 #[.agg (bQ p),.pointer none] w (mO w (some {U0 with au:=p.au,port:= -1,opq:=true,txt:=EscE.enc 0 p.rest})):=by
 obtain⟨s,rt,q,f,hq,hf⟩:=p
 simp only at hs hs1 hsp h0 h47 h32⊢
 obtain⟨O,hO⟩:∃O,O=some ({U0 with au:=s,port:= -1,opq:=true,txt:=EscE.enc 0 rt}:U):=⟨_,rfl⟩
 rw[←hO]
 have wC:Hid (∀w:World,Calls Tryz.prog 114 #[.string (strOf s)] w fun e w'=>e=.returned (.bool false)∧w'=w):=fun w=>by rw[←hsp];exact jv (strOf s) w
 have vW:Hid (∀w:World,Calls Tryz.prog 119 #[.agg (bQ ⟨s,rt,q,f,hq,hf⟩)] w (mO w O)):=fun w=>by rw[hO];exact aif ⟨s,rt,q,f,hq,hf⟩ w (by show rt.length≤_;omega) h47 h32
 clear hO hsp h47 h32
 go_enter Tryz.func50,Tryz.ntmps50
 go_upto_region 1 with(fail)
 generalize hw:World.alloc (World.alloc w _) _=w1
 have h1:PB w1 (w.heap.size) (⟨s,rt,q,f,hq,hf⟩)∧UB w1 ((w.heap.size+1)) (U0) (.slice none 0 0)∧Below w.heap.size w w1:=by
  subst hw
  exact laid2 w _ _ _ _
 clear hw
 have WL:Hid (w.heap.size≤w.heap.size):=Nat.le_refl _
 have bP:Hid (w.heap.size≤(w.heap.size+1)):=Nat.le_succ _
 have dF:=hid h1.1
 have aW:=hid h1.2.1
 have bM:=hid h1.2.2
 clear h1
 obtain⟨p0,p1,p2,p3,p4,p5⟩:=dF.out.facts
 have afn:((strOf s).toList==[102,105,108,101])=false:=by rw[aK,beq_eq_false_iff_ne];exact hs1
 have afo:¬(strOf s).toList=[102,105,108,101]:=by rw[aK];exact hs1
 go_wp2_with fail
 refine(wC.out _).mono ?_
 rintro e wx ⟨rfl,hwx⟩
 obtain rfl:w1=wx:=by first|exact hwx|exact hwx.symm
 clear hwx
 have Z9:((strOf s).toList==[])=false:=by rw[aK,beq_eq_false_iff_ne];exact h0
 have aac:¬(strOf s).toList=[]:=by rw[aK];exact h0
 have e2:(strOf s).toList.isEmpty=false:=by rw[aK];simpa using h0
 clear h0 hs1
 go_wp2_with fail
 refine(vW.out _).mono ?_
 rintro e w2 ⟨hbx,u',A',n',c',ok,rfl,hown,yK⟩
 have iy:Hid ((w.heap.size+1)<w1.heap.size):=aW.out.lt
 have HOW:=hid hown
 have F8:=hid yK
 clear hown yK
 have jE:=hid (dF.out.below hbx)
 have bK:=hid (aW.out.below hbx)
 have eX:=hid (bel bM.out hbx)
 have Ib:Hid (w.heap.size≤w1.heap.size):=bM.out.size
 clear dF aW bM
 clear hbx
 go_wp2_with (refine aC bK.out u' A' n' c' (.tmp 4) (.tmp 71) rfl rfl rfl rfl ?_)
 try simp only[Exit.inBlock,Exit.then]
 exact bodyPost_ret (w:=World.setRow w2 (w.heap.size+1) (cells u' (.slice A' n' c'))) (res2 (u:=u') (p:=.slice A' n' c') rfl (bK.out.row u' _) ok _ rfl rfl) rfl ⟨below_setRow eX.out bP.out _,u',A',n',c',ok,rfl,(HOW.out.row iy.out _).base Ib.out,F8.out⟩
end Go.Proofs.YtmpeaoacaecgpaaGreatDoor.OpqB
namespace Go.Proofs.YtmpeaoacaecgpaaGreatDoor.OpqC
open Go.RowKit Base Regs Base2 dI cO PthG PthH PthJ UrlA PrsP yw tN Fp mW Pbx tK yx jQ sU pO acr vZ TI akb WQ OpqB
theorem VJ (T:List UInt8) (p:Parts) (w:World) (hp:p=PrsP.apart (clean T)) (hs:T.length≤65536) (hs1:p.au≠FILE) (hsp:special p.au=false) (h0:p.au≠[]) (h47:Lib.hasPrefix p.rest [47]=false) (h32:Lib.hasSuffix (EscE.enc 0 p.rest) [32]=false) (hM:Max w) (hU:rD w):Calls Tryz.prog 16 #[.string (strOf T),.pointer none] w (xC w (some (PrsP.finish {U0 with au:=p.au,port:= -1,opq:=true,txt:=EscE.enc 0 p.rest} p))):=by
 have hcl:=yF T
 obtain⟨C,hC⟩:∃x,x=clean T:=⟨_,rfl⟩
 rw[←hC]at hcl hp
 have hpl:=Kv C
 rw[←hp]at hpl
 obtain⟨UV,hUV⟩:∃x,x=({U0 with au:=p.au,port:= -1,opq:=true,txt:=EscE.enc 0 p.rest}:U):=⟨_,rfl⟩
 rw[←hUV]
 obtain⟨OU,hOU⟩:∃x,x=some (PrsP.finish UV p):=⟨_,rfl⟩
 rw[←hOU]
 have HCL:Hid (∀w:World,rD w→Calls Tryz.prog 19 #[.string (strOf T)] w fun e w'=>e=.returned (.string (strOf C))∧Below w.heap.size w w'):=fun w h=>by rw[hC];exact clean_any T w (by omega) h
 have HAP:Hid (∀w:World,Max w→Calls Tryz.prog 49 #[.string (strOf C)] w fun e w'=>e=.returned (.agg (bQ p))∧Below w.heap.size w w'):=fun w h=>by rw[hp];exact qm C w (by omega) h
 have HRS:Hid (∀w:World,Calls Tryz.prog 50 #[.agg (bQ p),.pointer none] w (mO w (some UV))):=fun w=>by rw[hUV];exact abr p w (by omega) hs1 hsp h0 h47 h32
 have WC:Hid (∀(u:U) (A:Option Addr) (n c:Nat) (w:World),Calls Tryz.prog 51 #[.agg (cells u (.slice A n c)),.agg (bQ p)] w fun e w'=>e=.returned (.agg (cells (PrsP.finish u p) (.slice A n c)))∧Below w.heap.size w w'):=fun u A n c w=>Gx u p A n c w (by omega) (by omega)
 have hTI:¬((strOf T).size:Int)>65536:=by rw[size_strOf];omega
 have hTI2:((strOf T).size:Int)≤65536:=by omega
 have HOU:=hid hOU
 have HM:=hid hM
 have HUT:=hid hU
 clear hOU hp hC hM hU hpl hcl hs1 hsp h0 h47 h32 hUV
 obtain⟨s,rt,q,f,hq,hf⟩:=p
 go_enter Tryz.func16,Tryz.ntmps16
 go_upto_region 1 with(fail)
 generalize hw:World.alloc w _=w1
 have h1:UB w1 (w.heap.size) (U0) (.slice none 0 0)∧Below w.heap.size w w1:=by
  subst hw
  exact laid1 w _ _
 clear hw
 have bP:Hid (w.heap.size≤w.heap.size):=(Below.refl w.heap.size w).size
 have bM:=hid (bel (Below.refl w.heap.size w) h1.2)
 have aW:=hid h1.1
 clear h1
 go_wp2_with fail
 refine(HCL.out _ (HUT.out.below bM.out)).mono ?_
 rintro e w2 ⟨rfl,hbx⟩
 have bK:=hid (aW.out.below hbx)
 have eX:=hid (bel bM.out hbx)
 clear aW bM
 clear hbx
 go_wp2_with fail
 refine(HAP.out _ (HM.out.below eX.out)).mono ?_
 rintro e w3 ⟨rfl,hbx⟩
 have bD:=hid (bK.out.below hbx)
 have cZ:=hid (bel eX.out hbx)
 clear bK eX
 clear hbx
 rw[show Value.agg (bQ ⟨s,rt,q,f,hq,hf⟩)=.agg #[.string (strOf s),.string (strOf rt),.string (strOf q),.string (strOf f),.bool hq,.bool hf]from rfl]
 go_upto_region 4 with(fail)
 generalize hw:World.alloc w3 _=w4
 have h1:PB w4 (w3.heap.size) (⟨s,rt,q,f,hq,hf⟩)∧Below w3.heap.size w3 w4:=by
  subst hw
  exact laid1 w3 _ _
 clear hw
 have hlr:=bD.out.lt
 have J9:Hid (w.heap.size≠w3.heap.size):=by show _≠_;omega
 have J8:Hid (w3.heap.size≠w.heap.size):=by show _≠_;omega
 clear hlr
 have WL:Hid (w.heap.size≤w3.heap.size):=cZ.out.size
 have bF:=hid (bD.out.below h1.2)
 have dD:=hid (bel cZ.out h1.2)
 have kT:=hid h1.1
 clear bD cZ
 clear h1
 obtain⟨p0,p1,p2,p3,p4,p5⟩:=kT.out.facts
 go_wp2_with fail
 clear p0 p1 p2 p3 p4 p5
 refine(HRS.out _).mono ?_
 rintro e w5 ⟨hbx,u',A',n',c',ok,rfl,hown,yK⟩
 have iy:Hid (w.heap.size<w4.heap.size):=bF.out.lt
 have Ib:Hid (w.heap.size≤w4.heap.size):=dD.out.size
 have bH:=hid (bF.out.below hbx)
 have mF:=hid (kT.out.below hbx)
 have fC:=hid (bel dD.out hbx)
 have F8:=hid yK
 have ajR:=hid (show Own w4 w5 u' A' n' c' from hown)
 clear yK hown
 clear bF kT dD
 clear hbx
 rw[show Value.agg (cells u' (.slice A' n' c'))=.agg #[.string (strOf u'.au),.string (strOf u'.usr),.string (strOf u'.pwd),.string (strOf u'.hst),.bool u'.hh,.int .i64 u'.port,.bool u'.opq,.string (strOf u'.txt),.slice A' n' c',.bool u'.hq,.bool u'.hf,.string (strOf u'.dY),.string (strOf u'.fB)]from rfl]
 go_upto_region 5 with(fail)
 generalize hw:World.alloc w5 _=w6
 have h1:UB w6 (w5.heap.size) (u') (.slice A' n' c')∧Below w5.heap.size w5 w6:=by
  subst hw
  exact laid1 w5 _ _
 clear hw
 have hlr:=bH.out.lt
 have aX:Hid (w.heap.size≠w5.heap.size):=by show _≠_;omega
 have nO:Hid (w5.heap.size≠w.heap.size):=by show _≠_;omega
 clear hlr
 have hlp:=mF.out.lt
 have jf:Hid (w3.heap.size≠w5.heap.size):=by show _≠_;omega
 have Ko:Hid (w5.heap.size≠w3.heap.size):=by show _≠_;omega
 clear hlp
 have fK:Hid (w.heap.size≤w5.heap.size):=fC.out.size
 have bT:=hid (bH.out.below h1.2)
 have yg:=hid (mF.out.below h1.2)
 have gq:=hid (bel fC.out h1.2)
 have bG:=hid h1.1
 have HBU:=hid h1.2
 clear bH mF fC
 clear h1
 obtain⟨rfl,rfl⟩:ok=true∧u'=UV:=by
  rcases F8.out with⟨h1,h⟩|⟨h1,_⟩
  ·injection h1 with h1;exact⟨h,h1.symm⟩
  cases h1
 have HSO:=HOU
 have hfp:(PrsP.finish u' ⟨s,rt,q,f,hq,hf⟩).aO=u'.aO:=Gy _ _
 obtain⟨d0,d1,d2,d3,d4,d5,d6,d7,d8,d9,d10,d11,d12⟩:=bG.out.facts
 obtain⟨p0,p1,p2,p3,p4,p5⟩:=yg.out.facts
 go_wp2_with fail
 clear d0 d1 d2 d3 d4 d5 d6 d7 d8 d9 d10 d11 d12
 clear p0 p1 p2 p3 p4 p5
 have Tf:Hid (Below w5.heap.size w5 w6):=HBU.out
 refine(WC.out u' A' n' c' _).mono ?_
 rintro e w7 ⟨rfl,hbx⟩
 have dQ:=hid (bT.out.below hbx)
 have HXpw7:=hid (yg.out.below hbx)
 have dO:=hid (bG.out.below hbx)
 have iU:=hid (bel gq.out hbx)
 clear bT yg bG gq
 have ajv:=hid hbx
 clear hbx
 have hwn:=(ajR.out.below Tf.out).below ajv.out
 go_wp2_with (refine aC dQ.out (PrsP.finish u' ⟨s,rt,q,f,hq,hf⟩) A' n' c' (.tmp 4) (.tmp 27) rfl rfl rfl rfl ?_)
 try simp only[Exit.inBlock,Exit.then]
 have ho:=(hwn.row iy.out (cells (PrsP.finish u' ⟨s,rt,q,f,hq,hf⟩) (.slice A' n' c'))).base Ib.out
 refine bodyPost_ret (w:=World.setRow w7 w.heap.size (cells (PrsP.finish u' ⟨s,rt,q,f,hq,hf⟩) (.slice A' n' c'))) (aiw (u:=PrsP.finish u' ⟨s,rt,q,f,hq,hf⟩) (p:=.slice A' n' c') rfl (dQ.out.row _ _) 0 _ rfl rfl) rfl ?_
 rw[HSO.out]
 exact⟨below_setRow iU.out bP.out _,A',n',c',rfl,by show Own _ _ (PrsP.finish u' ⟨s,rt,q,f,hq,hf⟩) _ _ _;unfold Own;rw[hfp];exact ho⟩
end Go.Proofs.YtmpeaoacaecgpaaGreatDoor.OpqC
namespace Go.Proofs.YtmpeaoacaecgpaaGreatDoor.aj6
open Go.RowKit Base dI cO UrlA J5 PrsP acK NJ wo zD
theorem in0 (c:UInt8) (h1:32≤c.toNat) (h2:c.toNat≤126):ji 0 c.toNat=false:=dn (p:=fun c=>32≤c.toNat→c.toNat≤126→ji 0 c.toNat=false) (by decide+kernel) c h1 h2
end Go.Proofs.YtmpeaoacaecgpaaGreatDoor.aj6
namespace Go.Proofs.YtmpeaoacaecgpaaGreatDoor.aj3
open Go.RowKit Base Base2 dI cO UrlA PrsP mW Pbx tK yx sU pO vZ WQ acK NJ wo aj6 OpqC
def uZ (c:UInt8):Bool:=decide (c≠63)&&(decide (c≠35)&&(decide (33≤c.toNat)&&decide (c.toNat≤126)))
theorem nC {c:UInt8} (h:uZ c=true):c≠63∧c≠35∧33≤c.toNat∧c.toNat≤126:=by simpa[uZ]using h
structure Fine (S R:List UInt8):Prop where
 au:S.all NT=true
 let0:lI S=true
 low:cO.lower S=S
 fs:S.all uZ=true
 amA:∀c ∈ S,c≠58
 file:S≠FILE
 spc:special S=false
 r:R.all uZ=true
 r0:R≠[]
 r47:Lib.hasPrefix R [47]=false
theorem Ns {R:List UInt8} (h:R.all uZ=true):Lib.hasSuffix R [32]=false:=by
 rcases jC R with e|⟨M,d,e⟩
 ·rw[e];rfl
 rw[e,eP]
 rw[e,List.all_append,Bool.and_eq_true]at h
 have:=nC (by simpa using h.2:uZ d=true)
 rw[decide_eq_false_iff_not]
 rintro rfl
 exact absurd this.2.2.1 (by decide)
theorem ZK {S R F:List UInt8} (h:Fine S R) (hf:F.all uZ=true):(∀c ∈ S++58::R++F,33≤c.toNat∧c.toNat≤126):=by
 intro c hc
 simp only[List.mem_append,List.mem_cons]at hc
 rcases hc with(hc|rfl|hc)|hc
 ·have:=nC (List.all_eq_true.1 h.fs c hc);exact this.2.2
 ·decide
 ·have:=nC (List.all_eq_true.1 h.r c hc);exact this.2.2
 have:=nC (List.all_eq_true.1 hf c hc);exact this.2.2
theorem PZ {T:List UInt8} (h0:T≠[]) (h:∀c ∈ T,33≤c.toNat∧c.toNat≤126):clean T=T:=by
 refine Dc (fun c hc=>⟨by have:=h c hc;omega,(h c hc).2⟩) ?_ ?_
 ·match T,h0,h with
  |c::t,_,h=>
   refine⟨c,t,rfl,?_⟩
   have:=h c (List.mem_cons_self ..)
   simp only[fO,decide_eq_false_iff_not];omega
 rcases jC T with e|⟨M,d,e⟩
 ·rw[e];rfl
 rw[e,eP,decide_eq_false_iff_not]
 rintro rfl
 have:=h 32 (by rw[e];simp)
 exact absurd this.1 (by decide)
theorem ZO {S R:List UInt8} (h:Fine S R):PrsP.apart (S++58::R)=⟨S,R,[],[],false,false⟩:=by
 have hall:∀d ∈ S++58::R,d≠63∧d≠35:=by
  intro d hd
  simp only[List.mem_append,List.mem_cons]at hd
  rcases hd with hd|rfl|hd
  ·have:=nC (List.all_eq_true.1 h.fs d hd);exact⟨this.1,this.2.1⟩
  ·decide
  have:=nC (List.all_eq_true.1 h.r d hd);exact⟨this.1,this.2.1⟩
 unfold PrsP.apart
 simp only
 rw[iP 35 _ fun d hd=>(hall d hd).2]
 simp only
 rw[iP 63 _ fun d hd=>(hall d hd).1]
 simp only
 rw[kW 58 S R h.amA]
 simp only
 rw[if_pos (by rw[h.let0];rfl),h.low]
theorem EC {R:List UInt8} (h:R.all uZ=true):EscE.enc 0 R=R:=Hz.lV 0 _ fun d hd=>by
 have:=nC (List.all_eq_true.1 h d hd)
 exact in0 d (by omega) this.2.2.2
def opU (S R:List UInt8):U:={U0 with au:=S,port:= -1,opq:=true,txt:=R}
structure Hy (w:World):Prop where
 pow:Tab.Pow w
 max:Max w
 Hq:rD w
theorem Hy.below {w w':World} (h:Hy w) (hb:Below w.heap.size w w'):Hy w':=⟨bY h.pow hb,h.max.below hb,h.Hq.below hb⟩
theorem X8 {S R:List UInt8} (h:Fine S R) (hl:(S++58::R).length≤65536) (w:World) (E:Hy w):Calls Tryz.prog 16 #[.string (strOf (S++58::R)),.pointer none] w (xC w (some (opU S R))):=by
 have hp:PrsP.apart (clean (S++58::R))=⟨S,R,[],[],false,false⟩:=by
  rw[PZ (by simp) fun c hc=>ZK (F:=[]) h rfl c (by simpa using hc),ZO h]
 have hS:S≠[]:=by rintro rfl;exact absurd h.let0 (by decide)
 have:=VJ (S++58::R) ⟨S,R,[],[],false,false⟩ w hp.symm hl h.file h.spc hS h.r47 (by show Lib.hasSuffix (EscE.enc 0 R) [32]=false;rw[EC h.r];exact Ns h.r) E.max E.Hq
 have e:PrsP.finish {U0 with au:=S,port:= -1,opq:=true,txt:=EscE.enc 0 R} ⟨S,R,[],[],false,false⟩=opU S R:=by unfold PrsP.finish opU;simp[EC h.r]
 simp only at this
 rw[e]at this
 exact this
theorem Om {T:List UInt8} {u:U} {w:World} (h:Calls Tryz.prog 16 #[.string (strOf T),.pointer none] w (xC w (some u))):Calls Tryz.prog 16 #[.string (strOf T),.pointer none] w fun e w'=>∃A n c,e=.returned (.tuple #[.agg (cells u (.slice A n c)),.int .i64 0])∧dR w' u A n c∧Below w.heap.size w w':=
 h.mono fun e w' ⟨h1,A,n,c,h2,h3⟩=>⟨A,n,c,h2,h3.aO,h1⟩
end Go.Proofs.YtmpeaoacaecgpaaGreatDoor.aj3
namespace Go.Proofs.YtmpeaoacaecgpaaGreatDoor.StoI
open Go.RowKit Base Base2 Base3 Regs uw xH Kq mW ES
theorem nI {w:World} {g:Nat} {s h:ByteArray} {p n:Int} (x:OB w g s h p n):(loadVar 38 ⟨g,0,none⟩).run Tryz.prog w=.ok (.agg #[.string s,.string h,.int .i64 p,.int .i64 n]) w:=
 run_loadVar_row w g _ _ #[.string s,.string h,.int .i64 p,.int .i64 n] (0,0) _ x Tryz.underlying38 rfl (by kernel_rfl)
end Go.Proofs.YtmpeaoacaecgpaaGreatDoor.StoI
namespace Go.Proofs.YtmpeaoacaecgpaaGreatDoor.ajr
open Go.RowKit Base Base2 Regs iH mW ES
def AB (w:World) (g:Nat) (cs:Array Value):Prop:=w.heap[g]?=some (.cells cs 118 (0,0))
section
variable {w w':World} {g:Nat} {cs:Array Value}
theorem AB.lt (h:AB w g cs):g<w.heap.size:=(Array.getElem?_eq_some_iff.1 h).1
theorem AB.below (h:AB w g cs) (hb:Below w.heap.size w w'):AB w' g cs:=(hb.block g h.lt).trans h
theorem AB.load (h:AB w g cs) (hs:cs.size=6):(loadVar 118 ⟨g,0,none⟩).run Tryz.prog w=.ok (.agg cs) w:=
 run_loadVar_row w g _ _ cs (0,0) _ h Tryz.underlying118 rfl (by rw[hs];kernel_rfl)
theorem AB.set (h:AB w g cs) (i:Nat) (x:Value):AB (w.setCell ⟨g,i,none⟩ x) g (cs.setIfInBounds i x):=heap_setCell_same w g i _ _ x h
theorem AB.Rx (h:AB w g cs) {k i:Nat} (x:Value) (hk:g≠k):AB (w.setCell ⟨k,i,none⟩ x) g cs:=(heap_setCell_other w ⟨k,i,none⟩ g x hk).trans h
theorem AB.row (h:AB w g cs) (ds:Array Value):AB (w.setRow g ds) g ds:=setRow_heap w g cs ds _ (0,0) h
theorem AB.facts {a b c d e f:Value} (h:AB w g #[a,b,c,d,e,f]):w.cell? ⟨g,0,none⟩=some a∧w.cell? ⟨g,1,none⟩=some b∧w.cell? ⟨g,2,none⟩=some c∧w.cell? ⟨g,3,none⟩=some d∧w.cell? ⟨g,4,none⟩=some e∧w.cell? ⟨g,5,none⟩=some f:=
 ⟨cell_of_row w g 0 _ _ _ h,cell_of_row w g 1 _ _ _ h,cell_of_row w g 2 _ _ _ h,cell_of_row w g 3 _ _ _ h,cell_of_row w g 4 _ _ _ h,cell_of_row w g 5 _ _ _ h⟩
theorem AB.thaw (h:AB w g cs):w.frozen? ⟨g,0,none⟩=false∧w.frozen? ⟨g,1,none⟩=false∧w.frozen? ⟨g,2,none⟩=false∧w.frozen? ⟨g,3,none⟩=false∧w.frozen? ⟨g,4,none⟩=false∧w.frozen? ⟨g,5,none⟩=false:=
 ⟨frozen_of_row w g 0 _ _ h,frozen_of_row w g 1 _ _ h,frozen_of_row w g 2 _ _ h,frozen_of_row w g 3 _ _ h,frozen_of_row w g 4 _ _ h,frozen_of_row w g 5 _ _ h⟩
theorem sG {ops:Array Oper} {rest:List Oper} {o:Oper} {a:Act} {Q:Exit→Act→World→Prop} (hU:AB w g cs) (ds:Array Value) (hs:cs.size=6) (hs2:ds.size=6) (h1:ds.all (·.oneCell')=true) (x y:Operand) (ho:o.op=.store 118 x y) (hgd:o.guard=none)
  (hx:a.eval x=.pointer (some ⟨g,0,none⟩)) (hy:a.eval y=.agg ds)
  (hh:wpList Tryz.prog ops Q rest (a.put o.dst undef) (w.setRow g ds)):wpList Tryz.prog ops Q (o::rest) a w:=
 wpList_store_row hgd 118 x y ho g ds hx hy 118 cs hU (by rw[hs2];kernel_rfl) (by rw[hs,hs2]) h1 hh
theorem abo {fn:Func} {a:Tmp} (h:fn.results=#[.cell a 118]) (hU:AB w g cs) (hs:cs.size=6) (tmps:Array Value) (h2:tmps.getD a undef=.pointer (some ⟨g,0,none⟩)):
  (results fn tmps).run Tryz.prog w=.ok (.agg cs) w:=
 results_cell_row h tmps w g _ cs (0,0) _ h2 hU Tryz.underlying118 rfl (by rw[hs];kernel_rfl)
end
section
variable {z:Int} {n f l:Nat} {K:List UInt8} {w:World} {gf gl:Nat} {L:Nat→Bool} {t:Nat→Value} {wr wq:World} {x:Value}
end
end Go.Proofs.YtmpeaoacaecgpaaGreatDoor.ajr
namespace Go.Proofs.YtmpeaoacaecgpaaGreatDoor.WV
open Go.RowKit Base Base2 PrsP mW tK yx
def wG (o:Bool) (t:List UInt8):Int:=if o=true∧t=[98,108,97,110,107]then 3 else if o=true∧t=[115,114,99,100,111,99]then 4 else 5
def qI (u:U):Int:=if u.au=[100,97,116,97]then 0 else if u.au=[98,108,111,98]then 1 else if u.au=[102,105,108,101]then 2 else if u.au=[97,98,111,117,116]then wG u.opq u.txt else if u.au=[106,97,118,97,115,99,114,105,112,116]then 6 else 7
theorem ag3 (u:U) (A:Option Addr) (n c:Nat) (w:World):Calls Tryz.prog 110 #[.agg (cells u (.slice A n c))] w fun e w'=>e=.returned (.int .i64 (wG u.opq u.txt))∧Below w.heap.size w w':=by
 obtain⟨z,hz⟩:∃z,z=wG u.opq u.txt:=⟨_,rfl⟩
 rw[←hz]
 have HZ:=hid hz
 clear hz
 cases ho:u.opq with
 |false=>
  have HE:Hid (z=5):=by show _=_;rw[HZ.out];unfold wG;simp[ho]
  go_enter Tryz.func110,Tryz.ntmps110
  go_upto_region 1 with(fail)
  generalize hw:World.alloc w _=w1
  have h1:UB w1 w.heap.size u (.slice A n c)∧Below w.heap.size w w1:=by
   subst hw
   exact laid1 w _ _
  clear hw
  obtain⟨d0,d1,d2,d3,d4,d5,d6,d7,d8,d9,d10,d11,d12⟩:=h1.1.facts
  have HB:=hid h1.2
  clear h1
  rw[ho]at d6
  clear ho
  go_wp2
  go_ret
  exact⟨by rw[HE.out];first|done|rfl,HB.out⟩
 | true=>
  by_cases h0:u.txt=[98,108,97,110,107]
  ·
   have Z9:((strOf u.txt).toList==[98,108,97,110,107])=true:=by rw[aK,h0];first|done|rfl
   have aac:(strOf u.txt).toList=[98,108,97,110,107]:=by rw[aK,h0];first|done|rfl
   have HE:Hid (z=3):=by show _=_;rw[HZ.out];unfold wG;simp[ho,h0]
   clear h0
   go_enter Tryz.func110,Tryz.ntmps110
   go_upto_region 1 with(fail)
   generalize hw:World.alloc w _=w1
   have h1:UB w1 w.heap.size u (.slice A n c)∧Below w.heap.size w w1:=by
    subst hw
    exact laid1 w _ _
   clear hw
   obtain⟨d0,d1,d2,d3,d4,d5,d6,d7,d8,d9,d10,d11,d12⟩:=h1.1.facts
   have HB:=hid h1.2
   clear h1
   rw[ho]at d6
   clear ho
   go_wp2
   go_ret
   exact⟨by rw[HE.out];first|done|rfl,HB.out⟩
  ·
   have Z9:((strOf u.txt).toList==[98,108,97,110,107])=false:=by rw[aK,beq_eq_false_iff_ne];exact h0
   have aac:¬(strOf u.txt).toList=[98,108,97,110,107]:=by rw[aK];exact h0
   by_cases h1:u.txt=[115,114,99,100,111,99]
   ·
    have e0h1:((strOf u.txt).toList==[115,114,99,100,111,99])=true:=by rw[aK,h1];first|done|rfl
    have e1h1:(strOf u.txt).toList=[115,114,99,100,111,99]:=by rw[aK,h1];first|done|rfl
    have HE:Hid (z=4):=by show _=_;rw[HZ.out];unfold wG;simp[ho,h1]
    clear h0 h1
    go_enter Tryz.func110,Tryz.ntmps110
    go_upto_region 1 with(fail)
    generalize hw:World.alloc w _=w1
    have h1:UB w1 w.heap.size u (.slice A n c)∧Below w.heap.size w w1:=by
     subst hw
     exact laid1 w _ _
    clear hw
    obtain⟨d0,d1,d2,d3,d4,d5,d6,d7,d8,d9,d10,d11,d12⟩:=h1.1.facts
    have HB:=hid h1.2
    clear h1
    rw[ho]at d6
    clear ho
    go_wp2
    go_ret
    exact⟨by rw[HE.out];first|done|rfl,HB.out⟩
   ·
    have e0h1:((strOf u.txt).toList==[115,114,99,100,111,99])=false:=by rw[aK,beq_eq_false_iff_ne];exact h1
    have e1h1:¬(strOf u.txt).toList=[115,114,99,100,111,99]:=by rw[aK];exact h1
    have HE:Hid (z=5):=by show _=_;rw[HZ.out];unfold wG;simp[ho,h0,h1]
    clear h0 h1
    go_enter Tryz.func110,Tryz.ntmps110
    go_upto_region 1 with(fail)
    generalize hw:World.alloc w _=w1
    have h1:UB w1 w.heap.size u (.slice A n c)∧Below w.heap.size w w1:=by
     subst hw
     exact laid1 w _ _
    clear hw
    obtain⟨d0,d1,d2,d3,d4,d5,d6,d7,d8,d9,d10,d11,d12⟩:=h1.1.facts
    have HB:=hid h1.2
    clear h1
    rw[ho]at d6
    clear ho
    go_wp2
    go_ret
    exact⟨by rw[HE.out];first|done|rfl,HB.out⟩
theorem KY (u:U) (A:Option Addr) (n c:Nat) (w:World):Calls Tryz.prog 48 #[.agg (cells u (.slice A n c))] w fun e w'=>e=.returned (.int .i64 (qI u))∧Below w.heap.size w w':=by
 have HAB:=hid (fun w=>ag3 u A n c w)
 obtain⟨z,hz⟩:∃z,z=qI u:=⟨_,rfl⟩
 rw[←hz]
 have HZ:=hid hz
 clear hz
 by_cases h0:u.au=[100,97,116,97]
 ·
  have Z9:((strOf u.au).toList==[100,97,116,97])=true:=by rw[aK,h0];first|done|rfl
  have aac:(strOf u.au).toList=[100,97,116,97]:=by rw[aK,h0];first|done|rfl
  have HE:Hid (z=0):=by show _=_;rw[HZ.out];unfold qI;simp[h0]
  clear h0
  go_enter Tryz.func48,Tryz.ntmps48
  go_upto_region 1 with(fail)
  generalize hw:World.alloc w _=w1
  have h1:UB w1 w.heap.size u (.slice A n c)∧Below w.heap.size w w1:=by
   subst hw
   exact laid1 w _ _
  clear hw
  obtain⟨d0,d1,d2,d3,d4,d5,d6,d7,d8,d9,d10,d11,d12⟩:=h1.1.facts
  have HB:=hid h1.2
  clear h1
  go_wp2
  go_ret
  exact⟨by rw[HE.out];first|done|rfl,HB.out⟩
 ·
  have Z9:((strOf u.au).toList==[100,97,116,97])=false:=by rw[aK,beq_eq_false_iff_ne];exact h0
  have aac:¬(strOf u.au).toList=[100,97,116,97]:=by rw[aK];exact h0
  by_cases h1:u.au=[98,108,111,98]
  ·
   have e0h1:((strOf u.au).toList==[98,108,111,98])=true:=by rw[aK,h1];first|done|rfl
   have e1h1:(strOf u.au).toList=[98,108,111,98]:=by rw[aK,h1];first|done|rfl
   have HE:Hid (z=1):=by show _=_;rw[HZ.out];unfold qI;simp[h0,h1]
   clear h0 h1
   go_enter Tryz.func48,Tryz.ntmps48
   go_upto_region 1 with(fail)
   generalize hw:World.alloc w _=w1
   have h1:UB w1 w.heap.size u (.slice A n c)∧Below w.heap.size w w1:=by
    subst hw
    exact laid1 w _ _
   clear hw
   obtain⟨d0,d1,d2,d3,d4,d5,d6,d7,d8,d9,d10,d11,d12⟩:=h1.1.facts
   have HB:=hid h1.2
   clear h1
   go_wp2
   go_ret
   exact⟨by rw[HE.out];first|done|rfl,HB.out⟩
  ·
   have e0h1:((strOf u.au).toList==[98,108,111,98])=false:=by rw[aK,beq_eq_false_iff_ne];exact h1
   have e1h1:¬(strOf u.au).toList=[98,108,111,98]:=by rw[aK];exact h1
   by_cases h2:u.au=[102,105,108,101]
   ·
        have e0h2:((strOf u.au).toList==[102,105,108,101])=true:=by rw[aK,h2];first|done|rfl
        have e1h2:(strOf u.au).toList=[102,105,108,101]:=by rw[aK,h2];first|done|rfl
        have HE:Hid (z=2):=by show _=_;rw[HZ.out];unfold qI;simp[h0,h1,h2]
        clear h0 h1 h2
        go_enter Tryz.func48,Tryz.ntmps48
        go_upto_region 1 with(fail)
        generalize hw:World.alloc w _=w1
        have h1:UB w1 w.heap.size u (.slice A n c)∧Below w.heap.size w w1:=by
         subst hw
         exact laid1 w _ _
        clear hw
        obtain⟨d0,d1,d2,d3,d4,d5,d6,d7,d8,d9,d10,d11,d12⟩:=h1.1.facts
        have HB:=hid h1.2
        clear h1
        go_wp2
        go_ret
        exact⟨by rw[HE.out];first|done|rfl,HB.out⟩
   ·
        have e0h2:((strOf u.au).toList==[102,105,108,101])=false:=by rw[aK,beq_eq_false_iff_ne];exact h2
        have e1h2:¬(strOf u.au).toList=[102,105,108,101]:=by rw[aK];exact h2
        by_cases h3:u.au=[97,98,111,117,116]
        ·
         have e0h3:((strOf u.au).toList==[97,98,111,117,116])=true:=by rw[aK,h3];first|done|rfl
         have e1h3:(strOf u.au).toList=[97,98,111,117,116]:=by rw[aK,h3];first|done|rfl
         have HE:Hid (z=wG u.opq u.txt):=by show _=_;rw[HZ.out];unfold qI;simp[h0,h1,h2,h3]
         clear h0 h1 h2 h3
         go_enter Tryz.func48,Tryz.ntmps48
         go_upto_region 1 with(fail)
         generalize hw:World.alloc w _=w1
         have h1:UB w1 w.heap.size u (.slice A n c)∧Below w.heap.size w w1:=by
          subst hw
          exact laid1 w _ _
         clear hw
         obtain⟨d0,d1,d2,d3,d4,d5,d6,d7,d8,d9,d10,d11,d12⟩:=h1.1.facts
         have HB:=hid h1.2
         clear h1
         go_wp2_with fail
         clear d0 d1 d2 d3 d4 d5 d6 d7 d8 d9 d10 d11 d12
         refine(HAB.out _).mono ?_
         rintro e w2 ⟨rfl,hb2⟩
         have HB2:=hid (bel HB.out hb2)
         clear hb2
         go_wp2
         go_ret
         exact⟨by rw[HE.out];first|done|rfl,HB2.out⟩
        ·
         have e0h3:((strOf u.au).toList==[97,98,111,117,116])=false:=by rw[aK,beq_eq_false_iff_ne];exact h3
         have e1h3:¬(strOf u.au).toList=[97,98,111,117,116]:=by rw[aK];exact h3
         by_cases h4:u.au=[106,97,118,97,115,99,114,105,112,116]
         ·
          have e0h4:((strOf u.au).toList==[106,97,118,97,115,99,114,105,112,116])=true:=by rw[aK,h4];first|done|rfl
          have e1h4:(strOf u.au).toList=[106,97,118,97,115,99,114,105,112,116]:=by rw[aK,h4];first|done|rfl
          have HE:Hid (z=6):=by show _=_;rw[HZ.out];unfold qI;simp[h0,h1,h2,h3,h4]
          clear h0 h1 h2 h3 h4
          go_enter Tryz.func48,Tryz.ntmps48
          go_upto_region 1 with(fail)
          generalize hw:World.alloc w _=w1
          have h1:UB w1 w.heap.size u (.slice A n c)∧Below w.heap.size w w1:=by
           subst hw
           exact laid1 w _ _
          clear hw
          obtain⟨d0,d1,d2,d3,d4,d5,d6,d7,d8,d9,d10,d11,d12⟩:=h1.1.facts
          have HB:=hid h1.2
          clear h1
          go_wp2
          go_ret
          exact⟨by rw[HE.out];first|done|rfl,HB.out⟩
         ·
          have e0h4:((strOf u.au).toList==[106,97,118,97,115,99,114,105,112,116])=false:=by rw[aK,beq_eq_false_iff_ne];exact h4
          have e1h4:¬(strOf u.au).toList=[106,97,118,97,115,99,114,105,112,116]:=by rw[aK];exact h4
          have HE:Hid (z=7):=by show _=_;rw[HZ.out];unfold qI;simp[h0,h1,h2,h3,h4]
          clear h0 h1 h2 h3 h4
          go_enter Tryz.func48,Tryz.ntmps48
          go_upto_region 1 with(fail)
          generalize hw:World.alloc w _=w1
          have h1:UB w1 w.heap.size u (.slice A n c)∧Below w.heap.size w w1:=by
           subst hw
           exact laid1 w _ _
          clear hw
          obtain⟨d0,d1,d2,d3,d4,d5,d6,d7,d8,d9,d10,d11,d12⟩:=h1.1.facts
          have HB:=hid h1.2
          clear h1
          go_wp2
          go_ret
          exact⟨by rw[HE.out];first|done|rfl,HB.out⟩
end Go.Proofs.YtmpeaoacaecgpaaGreatDoor.WV
namespace Go.Proofs.YtmpeaoacaecgpaaGreatDoor.FetC
open Go.RowKit Base Base2 Regs Kq mW PrsP ES uw xH WX ajr TL
theorem aaj (li sp:Value) (T:List UInt8) (u:U) (s h:ByteArray) (p n:Int) (w:World)
  (HP:Hid (∀w',Below w.heap.size w w'→Calls Tryz.prog 16 #[.string (strOf T),.pointer none] w' fun e w''=>∃A n' c,e=.returned (.tuple #[.agg (cells u (.slice A n' c)),.int .i64 0])∧dR w'' u A n' c∧Below w'.heap.size w' w''))
  (hz:WV.qI u=3):
  Calls Tryz.prog 203 #[li,.string (strOf T),.agg #[.string s,.string h,.int .i64 p,.int .i64 n],sp] w fun e w'=>e=.returned (.agg #[.int .i64 3,.int .i64 200,.int .i64 0,.int .i64 0,.string ⟨#[116,101,120,116,47,104,116,109,108,59,99,104,97,114,115,101,116,61,117,116,102,45,56]⟩,.slice none 0 0])∧Below w.heap.size w w':=by
 have HZ:=hid hz
 clear hz
 go_enter Tryz.func203,Tryz.ntmps203
 go_upto_region 1 with(fail)
 generalize bI:World.alloc (World.alloc w _) _=v1
 have h1_:OB v1 w.heap.size s h p n∧AB v1 (w.heap.size+1) #[.int .i64 0,.int .i64 0,.int .i64 0,.int .i64 0,.string ⟨#[]⟩,.slice none 0 0]∧Below w.heap.size w v1:=by
  subst bI
  exact laid2 w _ _ _ _
 clear bI
 have ZE:=hid h1_.1
 have Po:=hid h1_.2.1
 have HB1:=hid h1_.2.2
 clear h1_
 go_wp2_with fail
 refine(HP.out _ HB1.out).mono ?_
 rintro e v2 ⟨A,n',c,rfl,hpt,hb2⟩
 have XO2:=hid (ZE.out.below hb2)
 have Pq:=hid (Po.out.below hb2)
 have HB2:=hid (bel HB1.out hb2)
 have Zc:=hid hpt
 clear ZE Po HB1 hb2 hpt
 rw[show Value.agg (cells u (.slice A n' c))=.agg #[.string (strOf u.au),.string (strOf u.usr),.string (strOf u.pwd),.string (strOf u.hst),.bool u.hh,.int .i64 u.port,.bool u.opq,.string (strOf u.txt),.slice A n' c,.bool u.hq,.bool u.hf,.string (strOf u.dY),.string (strOf u.fB)]from rfl]
 go_upto_region 4 with(fail)
 generalize bI:World.alloc v2 _=v3
 have h3_:UB v3 v2.heap.size u (.slice A n' c)∧Below v2.heap.size v2 v3:=by
  subst bI
  exact laid1 v2 _ _
 clear bI
 have XO3:=hid (XO2.out.below h3_.2)
 have NZ:=hid (Pq.out.below h3_.2)
 have HB3:=hid (bel HB2.out h3_.2)
 have Zd:=hid (dR.below Zc.out h3_.2)
 have ZG:=hid h3_.1
 clear h3_ XO2 Pq HB2 Zc
 have SA:=hid ZG.out.load
 go_wp2_with (refine fJ SA.out (.tmp 9) rfl rfl rfl ?_)
 refine(WV.KY u A n' c _).mono ?_
 rw[HZ.out]
 rintro e v4 ⟨rfl,hb4⟩
 have XO4:=hid (XO3.out.below hb4)
 have Pv:=hid (NZ.out.below hb4)
 have HB4:=hid (bel HB3.out hb4)
 have Ze:=hid (dR.below Zd.out hb4)
 have XU4:=hid (ZG.out.below hb4)
 clear XO3 NZ HB3 Zd ZG SA hb4
 go_upto_region 5 with(fail)
 generalize bI:World.alloc v4 _=v5
 have h5_:AB v5 v4.heap.size #[.int .i64 3,.int .i64 0,.int .i64 0,.int .i64 0,.string ⟨#[]⟩,.slice none 0 0]∧Below v4.heap.size v4 v5:=by
  subst bI
  exact laid1 v4 _ _
 clear bI
 have XO5:=hid (XO4.out.below h5_.2)
 have ZF:=hid (Pv.out.below h5_.2)
 have iG:=hid (bel HB4.out h5_.2)
 have acF:=hid (dR.below Ze.out h5_.2)
 have XU5:=hid (XU4.out.below h5_.2)
 have Xc:=hid h5_.1
 have X7:Hid (w.heap.size+1<v4.heap.size):=Pv.out.lt
 clear h5_ XO4 Pv HB4 Ze XU4
 obtain⟨a0,a1,a2,a3,a4,a5⟩:=Xc.out.facts
 obtain⟨f0,f1,f2,f3,f4,f5⟩:=Xc.out.thaw
 go_upto_region 14 with(fail)
 have hx:AB ((v5.setCell ⟨v4.heap.size,1,none⟩ (.int .i64 200)).setCell ⟨v4.heap.size,4,none⟩ (.string ⟨#[116,101,120,116,47,104,116,109,108,59,99,104,97,114,115,101,116,61,117,116,102,45,56]⟩)) v4.heap.size #[.int .i64 3,.int .i64 200,.int .i64 0,.int .i64 0,.string ⟨#[116,101,120,116,47,104,116,109,108,59,99,104,97,114,115,101,116,61,117,116,102,45,56]⟩,.slice none 0 0]:=(Xc.out.set 1 _).set 4 _
 have hr:AB ((v5.setCell ⟨v4.heap.size,1,none⟩ (.int .i64 200)).setCell ⟨v4.heap.size,4,none⟩ (.string ⟨#[116,101,120,116,47,104,116,109,108,59,99,104,97,114,115,101,116,61,117,116,102,45,56]⟩)) (w.heap.size+1) #[.int .i64 0,.int .i64 0,.int .i64 0,.int .i64 0,.string ⟨#[]⟩,.slice none 0 0]:=(ZF.out.Rx _ (by have:=X7.out;omega)).Rx _ (by have:=X7.out;omega)
 have hb:Below w.heap.size w ((v5.setCell ⟨v4.heap.size,1,none⟩ (.int .i64 200)).setCell ⟨v4.heap.size,4,none⟩ (.string ⟨#[116,101,120,116,47,104,116,109,108,59,99,104,97,114,115,101,116,61,117,116,102,45,56]⟩)):=(iG.out.setCell (p:=⟨v4.heap.size,1,none⟩) (by have:=X7.out;show w.heap.size≤v4.heap.size;omega) _).setCell (p:=⟨v4.heap.size,4,none⟩) (by have:=X7.out;show w.heap.size≤v4.heap.size;omega) _
 generalize (v5.setCell _ _).setCell _ _=v6 at hx hr hb⊢
 have XA6:=hid hx
 have dB:=hid hr
 have nN:=hid hb
 clear hx hr hb Xc ZF iG XO5 XU5 acF a0 a1 a2 a3 a4 a5 f0 f1 f2 f3 f4 f5
 have Uy:=hid (XA6.out.load rfl)
 go_wp2_with (first|refine fJ Uy.out (.tmp 11) rfl rfl rfl ?_|refine sG dB.out #[.int .i64 3,.int .i64 200,.int .i64 0,.int .i64 0,.string ⟨#[116,101,120,116,47,104,116,109,108,59,99,104,97,114,115,101,116,61,117,116,102,45,56]⟩,.slice none 0 0] rfl rfl (by simp[Value.oneCell']) (.tmp 8) (.tmp 50) rfl rfl rfl rfl ?_)
 try simp only[Exit.inBlock,Exit.then]
 exact bodyPost_ret (w:=World.setRow v6 (w.heap.size+1) #[.int .i64 3,.int .i64 200,.int .i64 0,.int .i64 0,.string ⟨#[116,101,120,116,47,104,116,109,108,59,99,104,97,114,115,101,116,61,117,116,102,45,56]⟩,.slice none 0 0]) (abo rfl (AB.row dB.out _) rfl _ rfl) rfl ⟨rfl,below_setRow nN.out (Nat.le_succ w.heap.size) _⟩
end Go.Proofs.YtmpeaoacaecgpaaGreatDoor.FetC
namespace Go.Proofs.YtmpeaoacaecgpaaGreatDoor.StkF
open Go.RowKit Base Base2 Regs Kq mW PrsP ES StoI ajr FetC TL TK
theorem Yu {w:World} (pv:Option Addr) (sp:Value) (T s h:ByteArray) (p n:Int) (Q:Array Value→World→Prop) (HQ:∀(cs:Array Value) (a:World) (g:Nat) (ds:Array Value),Q cs a→w.heap.size≤g→g<w.heap.size+2→Q cs (a.setRow g ds))
  (HF:Hid (∀w',Below w.heap.size w w'→w.heap.size+2≤w'.heap.size→Calls Tryz.prog 203 #[.iface 103 (.pointer pv),.string T,.agg #[.string s,.string h,.int .i64 p,.int .i64 n],sp] w' fun e w''=>∃cs,e=.returned (.agg cs)∧cs.size=6∧cs.all (·.oneCell')=true∧Below w'.heap.size w' w''∧Q cs w'')):
  Calls Tryz.prog 98 #[.pointer pv,.string T,.agg #[.string s,.string h,.int .i64 p,.int .i64 n],sp] w fun e w'=>∃cs,e=.returned (.agg cs)∧cs.size=6∧Below w.heap.size w w'∧Q cs w':=by
 go_enter Tryz.func98,Tryz.ntmps98
 go_upto_region 1 with(fail)
 generalize bI:World.alloc (World.alloc w _) _=v1
 have h1_:OB v1 w.heap.size s h p n∧AB v1 (w.heap.size+1) #[.int .i64 0,.int .i64 0,.int .i64 0,.int .i64 0,.string ⟨#[]⟩,.slice none 0 0]∧Below w.heap.size w v1:=by
  subst bI
  exact laid2 w _ _ _ _
 clear bI
 have ZE:=hid h1_.1
 have Po:=hid h1_.2.1
 have HB1:=hid h1_.2.2
 have BD:Hid (w.heap.size+2≤v1.heap.size):=h1_.2.1.lt
 clear h1_
 have pY:=hid (nI ZE.out)
 go_wp2_with (refine fJ pY.out (.tmp 6) rfl rfl rfl ?_)
 refine(HF.out _ HB1.out BD.out).mono ?_
 rintro e v2 ⟨cs,rfl,hcs,hone,hb2,hq⟩
 have Pq:=hid (Po.out.below hb2)
 have HB2:=hid (bel HB1.out hb2)
 have HQ2:=hid hq
 have HC2:=hid hcs
 have xE:=hid hone
 clear hb2 hq hcs hone ZE Po HB1 pY
 go_wp2_with (refine sG Pq.out cs rfl HC2.out xE.out (.tmp 8) (.tmp 14) rfl rfl rfl rfl ?_)
 try simp only[Exit.inBlock,Exit.then]
 exact bodyPost_ret (w:=World.setRow v2 (w.heap.size+1) cs) (abo rfl (AB.row Pq.out _) HC2.out _ rfl) rfl ⟨cs,rfl,HC2.out,below_setRow HB2.out (Nat.le_succ w.heap.size) _,HQ _ _ _ _ HQ2.out (Nat.le_succ _) (Nat.lt_succ_self _)⟩
end Go.Proofs.YtmpeaoacaecgpaaGreatDoor.StkF
namespace Go.Proofs.YtmpeaoacaecgpaaGreatDoor.StkH
open Go.RowKit Base Base2 Regs Kq aj6 mW PrsP tK vZ WQ sU pO ES xH aj3 iH ajr FetC TL TK StkF
theorem adx:Fine [97,98,111,117,116] [98,108,97,110,107] where
 au:=by decide+kernel
 let0:=by decide+kernel
 low:=by decide+kernel
 fs:=by decide+kernel
 amA:=by decide
 file:=by decide
 spc:=by decide+kernel
 r:=by decide+kernel
 r0:=by decide
 r47:=rfl
theorem anA (pv:Option Addr) (sp:Value) (s h:ByteArray) (p n:Int) (w:World) (E:Hy w):Calls Tryz.prog 98 #[.pointer pv,.string ⟨#[97,98,111,117,116,58,98,108,97,110,107]⟩,.agg #[.string s,.string h,.int .i64 p,.int .i64 n],sp] w fun e w'=>e=.returned (.agg #[.int .i64 3,.int .i64 200,.int .i64 0,.int .i64 0,.string ⟨#[116,101,120,116,47,104,116,109,108,59,99,104,97,114,115,101,116,61,117,116,102,45,56]⟩,.slice none 0 0])∧Below w.heap.size w w':=by
 have hT:(⟨#[97,98,111,117,116,58,98,108,97,110,107]⟩:ByteArray)=strOf ([97,98,111,117,116]++58::[98,108,97,110,107]):=rfl
 rw[hT]
 refine(Yu pv sp _ s h p n (fun cs _=>cs=#[.int .i64 3,.int .i64 200,.int .i64 0,.int .i64 0,.string ⟨#[116,101,120,116,47,104,116,109,108,59,99,104,97,114,115,101,116,61,117,116,102,45,56]⟩,.slice none 0 0]) (fun _ _ _ _ h _ _=>h) (hid fun w1 hb1 _=>(aaj _ sp _ (opU [97,98,111,117,116] [98,108,97,110,107]) s h p n w1 (hid fun w2 hb2=>Om (X8 adx (by decide) w2 (E.below (bel hb1 hb2)))) (by decide+kernel)).mono fun e w2 ⟨h1,h2⟩=>⟨_,h1,rfl,by simp[Value.oneCell'],h2,rfl⟩)).mono ?_
 rintro e w' ⟨cs,rfl,_,hb,rfl⟩
 exact⟨rfl,hb⟩
end Go.Proofs.YtmpeaoacaecgpaaGreatDoor.StkH
namespace Go.Proofs.YtmpeaoacaecgpaaGreatDoor.xC
open Go.RowKit Base
def be (n:Nat):Nat→List UInt8
 |0=>[]
 |m+1=>UInt8.ofNat (n / 256^m)::be n m
theorem eU (n m:Nat):(be n m).length=m:=by
 induction m with
 |zero=>rfl
 |succ m ih=>simp[be,ih]
def str (L:List UInt8):List UInt8:=be L.length 4++L
end Go.Proofs.YtmpeaoacaecgpaaGreatDoor.xC
namespace Go.Proofs.YtmpeaoacaecgpaaGreatDoor.ajh
open Go.RowKit Base Base2 Base3
theorem clone_any (A:Option Addr) (n cap:Nat) (L:List UInt8) (w:World) (h:aY w A n (ah L)) (hm:n≤1073741824):
  Calls Tryz.prog 268 #[.slice A n cap] w fun e w'=>∃v,e=.returned v∧w'.ownsRow w.heap.size 5 1 v n (ah L)∧Below w.heap.size w w':=by
 have hl:L.length=n:=by rw[←aI];exact h.1
 have HH:=hid h
 clear h
 obtain⟨i0,hi,hz0,hz1,hz2⟩:=info_parts iR
 have hnil:=fun(W:World)=>Lib.run_eql_slice_nil (P:=Tryz.prog) W 45 5 A n cap 0 0 Tryz.underlying45
 cases A with
 | none=>
  have h0:n=0:=by
   rcases Nat.eq_zero_or_pos n with h0|h0
   ·exact h0
   ·obtain⟨_,_,e,_⟩:=HH.out.spot h0
    cases e
  subst h0
  obtain rfl:L=[]:=List.eq_nil_of_length_eq_zero hl
  go_enter Tryz.func268,Tryz.ntmps268
  go_wp2
  go_ret
  exact⟨_,rfl,World.ownsRow_nil _ _ _ _,Below.refl _ _⟩
 |some ad=>
  have hownA:(w.alloc (.cells #[] 5)).ownsRow w.heap.size 5 1 (.slice (some ⟨w.heap.size,0,none⟩) 0 0) 0 []:=World.ownsRow_made w #[] 0 (Nat.le_refl _) (by decide) rfl
  have jm:Below w.heap.size w (w.alloc (.cells #[] 5)):=(Below.refl _ _).alloc (Nat.le_refl _) _
  have Zf:Hid (aY (w.alloc (.cells #[] 5)) (some ad) n (ah L)):=HH.out.below jm
  clear hl
  go_enter Tryz.func268,Tryz.ntmps268
  go_wp2_with (at_builtin;refine dH rfl _ _ 45 rfl w.heap.size 5 i0 (.int .u8 0) 1 Tryz.underlying45 hi hz0 hz1 hz2 rfl _ 0 [] rfl hownA jm jm.size (some ad) n cap (ah L) rfl Zf.out (nR _) (by unfold maxLen;omega) (by omega) ?_)
  intro v3 w3 hown3 dG
  clear hownA jm Zf
  go_wp2
  go_ret
  exact⟨_,rfl,hown3,dG⟩
end Go.Proofs.YtmpeaoacaecgpaaGreatDoor.ajh
