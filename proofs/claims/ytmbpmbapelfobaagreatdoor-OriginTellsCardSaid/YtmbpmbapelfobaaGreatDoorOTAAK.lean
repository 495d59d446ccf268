/- Lemmas. -/
import Derived.Test.YtmbpmbapelfobaaGreatDoorOTAAJ
import Derived.Laws.RangeAny
import Derived.Laws.Runes
import Derived.Deep.LoopGhost
import Derived.WalkMore
import Derived.OwnWalk
set_option linter.unusedSimpArgs false
set_option linter.unusedVariables false
set_option maxRecDepth 100000
set_option maxHeartbeats 64000000
namespace Go.Proofs.YtmbpmbapelfobaaGreatDoor
open Tryz
namespace qB
open Go.RowKit Base aC
def cells (u:U) (p:Value):Array Value:=#[.string (ah u.au),.string (ah u.bT),.string (ah u.bW),.string (ah u.aS),.bool u.hh,.int .i64 u.port,.bool u.bP,.string (ah u.txt),p,.bool u.hq,.bool u.hf,.string (ah u.bQ),.string (ah u.dY)]
def UB (w:World) (g:Nat) (u:U) (p:Value):Prop:=w.heap[g]?=some (.cells (cells u p) 25 (0,0))
variable {w w':World} {g:Nat} {u:U} {p:Value}
theorem UB.lt (h:UB w g u p):g<w.heap.size:=(Array.getElem?_eq_some_iff.1 h).1
theorem UB.below (h:UB w g u p) (a:Below w.heap.size w w'):UB w' g u p:=(a.block g h.lt).trans h
theorem UB.facts (h:UB w g u p):w.cell? ⟨g,0,none⟩=some (.string (ah u.au))∧w.cell? ⟨g,1,none⟩=some (.string (ah u.bT))∧w.cell? ⟨g,2,none⟩=some (.string (ah u.bW))∧w.cell? ⟨g,3,none⟩=some (.string (ah u.aS))∧w.cell? ⟨g,4,none⟩=some (.bool u.hh)∧w.cell? ⟨g,5,none⟩=some (.int .i64 u.port)∧w.cell? ⟨g,6,none⟩=some (.bool u.bP)∧w.cell? ⟨g,7,none⟩=some (.string (ah u.txt))∧w.cell? ⟨g,8,none⟩=some p∧w.cell? ⟨g,9,none⟩=some (.bool u.hq)∧w.cell? ⟨g,10,none⟩=some (.bool u.hf)∧w.cell? ⟨g,11,none⟩=some (.string (ah u.bQ))∧w.cell? ⟨g,12,none⟩=some (.string (ah u.dY)):=
 ⟨cell_of_row w g 0 _ _ _ h,cell_of_row w g 1 _ _ _ h,cell_of_row w g 2 _ _ _ h,cell_of_row w g 3 _ _ _ h,cell_of_row w g 4 _ _ _ h,cell_of_row w g 5 _ _ _ h,cell_of_row w g 6 _ _ _ h,cell_of_row w g 7 _ _ _ h,cell_of_row w g 8 _ _ _ h,cell_of_row w g 9 _ _ _ h,cell_of_row w g 10 _ _ _ h,cell_of_row w g 11 _ _ _ h,cell_of_row w g 12 _ _ _ h⟩
theorem UB.thaw (h:UB w g u p):w.frozen? ⟨g,0,none⟩=false∧w.frozen? ⟨g,1,none⟩=false∧w.frozen? ⟨g,2,none⟩=false∧w.frozen? ⟨g,3,none⟩=false∧w.frozen? ⟨g,4,none⟩=false∧w.frozen? ⟨g,5,none⟩=false∧w.frozen? ⟨g,6,none⟩=false∧w.frozen? ⟨g,7,none⟩=false∧w.frozen? ⟨g,8,none⟩=false∧w.frozen? ⟨g,9,none⟩=false∧w.frozen? ⟨g,10,none⟩=false∧w.frozen? ⟨g,11,none⟩=false∧w.frozen? ⟨g,12,none⟩=false:=
 ⟨frozen_of_row w g 0 _ _ h,frozen_of_row w g 1 _ _ h,frozen_of_row w g 2 _ _ h,frozen_of_row w g 3 _ _ h,frozen_of_row w g 4 _ _ h,frozen_of_row w g 5 _ _ h,frozen_of_row w g 6 _ _ h,frozen_of_row w g 7 _ _ h,frozen_of_row w g 8 _ _ h,frozen_of_row w g 9 _ _ h,frozen_of_row w g 10 _ _ h,frozen_of_row w g 11 _ _ h,frozen_of_row w g 12 _ _ h⟩
theorem UB.bT (h:UB w g u p) (s:List UInt8):UB (w.setCell ⟨g,1,none⟩ (.string (ah s))) g {u with bT:=s} p:=heap_setCell_same w g 1 _ _ _ h
theorem UB.bW (h:UB w g u p) (s:List UInt8):UB (w.setCell ⟨g,2,none⟩ (.string (ah s))) g {u with bW:=s} p:=heap_setCell_same w g 2 _ _ _ h
theorem UB.aS (h:UB w g u p) (s:List UInt8):UB (w.setCell ⟨g,3,none⟩ (.string (ah s))) g {u with aS:=s} p:=heap_setCell_same w g 3 _ _ _ h
theorem UB.port (h:UB w g u p) (z:Int):UB (w.setCell ⟨g,5,none⟩ (.int .i64 z)) g {u with port:=z} p:=heap_setCell_same w g 5 _ _ _ h
theorem UB.bP (h:UB w g u p) (b:Bool):UB (w.setCell ⟨g,6,none⟩ (.bool b)) g {u with bP:=b} p:=heap_setCell_same w g 6 _ _ _ h
theorem UB.txt (h:UB w g u p) (s:List UInt8):UB (w.setCell ⟨g,7,none⟩ (.string (ah s))) g {u with txt:=s} p:=heap_setCell_same w g 7 _ _ _ h
theorem UB.path (h:UB w g u p) (q:Value):UB (w.setCell ⟨g,8,none⟩ q) g u q:=heap_setCell_same w g 8 _ _ _ h
theorem UB.hq (h:UB w g u p) (b:Bool):UB (w.setCell ⟨g,9,none⟩ (.bool b)) g {u with hq:=b} p:=heap_setCell_same w g 9 _ _ _ h
theorem UB.hf (h:UB w g u p) (b:Bool):UB (w.setCell ⟨g,10,none⟩ (.bool b)) g {u with hf:=b} p:=heap_setCell_same w g 10 _ _ _ h
theorem UB.bQ (h:UB w g u p) (s:List UInt8):UB (w.setCell ⟨g,11,none⟩ (.string (ah s))) g {u with bQ:=s} p:=heap_setCell_same w g 11 _ _ _ h
theorem UB.dY (h:UB w g u p) (s:List UInt8):UB (w.setCell ⟨g,12,none⟩ (.string (ah s))) g {u with dY:=s} p:=heap_setCell_same w g 12 _ _ _ h
theorem fK.below {u:U} {A:Option Addr} {n c:Nat} (h:fK w u A n c) (a:Below w.heap.size w w'):fK w' u A n c:=⟨h.1.below a,h.2⟩
theorem cZ {B:Nat} {v:Value} {u:U} (h:w.ownsRow B 9 1 v u.aF.length (u.aF.map Value.string)):∃A c,v=.slice A u.aF.length c∧fK w u A u.aF.length c:=by
 obtain⟨A,c,e,f,d,a⟩:=aW h;exact⟨A,c,e,a,f,d⟩
theorem Ri (w:World) {u:U} (h:u.aF=[]):fK w u none 0 0:=by
 refine⟨?_,Nat.le_refl _,Nat.zero_le _⟩;rw[h];exact dW.nil _
theorem UB.load (h:UB w g u p):(loadVar 25 ⟨g,0,none⟩).run prog w=.ok (.agg (cells u p)) w:=
 run_loadVar_row w g _ _ (cells u p) (0,0) _ h underlying25 rfl (by kernel_rfl)
theorem UB.set (h:UB w g u p) {k i:Nat} (x:Value) (a:g≠k):UB (w.setCell ⟨k,i,none⟩ x) g u p:=by
 unfold UB;rw[heap_setCell_other _ _ _ _ a];exact h
theorem gY {f:Func} {a b:Tmp} (h:f.results=#[.cell a 25,.tmp b]) (i:UB w g u p) (ok:Bool) (c:Array Value) (k:c.getD a undef=.pointer (some ⟨g,0,none⟩)) (j:c.getD b undef=.bool ok):
  (results f c).run prog w=.ok (.tuple #[.agg (cells u p),.bool ok]) w:=by
 have e:c[a]?.getD undef=.pointer (some ⟨g,0,none⟩):=by simpa using k
 have d:c[b]?.getD undef=.bool ok:=by simpa using j
 simp[results,h,e,d,asAddr,i.load]
theorem res1 {d:Func} {a:Tmp} (h:d.results=#[.cell a 25]) (e:UB w g u p) (c:Array Value) (f:c.getD a undef=.pointer (some ⟨g,0,none⟩)):
  (results d c).run prog w=.ok (.agg (cells u p)) w:=
 results_cell_row h c w g _ _ _ _ f e underlying25 rfl (by kernel_rfl)
theorem UB.row {v:U} {q:Value} (h:UB w g v q) (u:U) (p:Value):UB (w.setRow g (cells u p)) g u p:=setRow_heap w g (cells v q) (cells u p) _ (0,0) h
theorem aJ {ops:Array Oper} {rest:List Oper} {o:Oper} {a:Act} {Q:Exit→Act→World→Prop} {v:U} {q:Value} (i:UB w g v q) (u:U) (A:Option Addr) (n c:Nat) (x y:Operand) (f:o.op=.store 25 x y) (d:o.guard=none)
  (hx:a.eval x=.pointer (some ⟨g,0,none⟩)) (e:a.eval y=.agg (cells u (.slice A n c)))
  (h:wpList prog ops Q rest (a.put o.dst undef) (w.setRow g (cells u (.slice A n c)))):wpList prog ops Q (o::rest) a w:=
 wpList_store_row d 25 x y f g (cells u (.slice A n c)) hx e 25 (cells v q) i (by kernel_rfl) rfl (by simp[cells,Value.oneCell']) h
theorem iG (w:World) (a:Array Value) (T:TypeId):(w.alloc (.cells a T)).heap[w.heap.size]?=some (.cells a T (0,0))∧Below w.heap.size w (w.alloc (.cells a T)):=
 ⟨heap_alloc_new w _,(Below.refl _ _).alloc (Nat.le_refl _) _⟩
theorem jC (w:World) (a b:Array Value) (T S:TypeId):((w.alloc (.cells a T)).alloc (.cells b S)).heap[w.heap.size]?=some (.cells a T (0,0))∧((w.alloc (.cells a T)).alloc (.cells b S)).heap[w.heap.size+1]?=some (.cells b S (0,0))∧Below w.heap.size w ((w.alloc (.cells a T)).alloc (.cells b S)):=by
 obtain⟨f,e⟩:=iG w a T;have c:=iG (w.alloc (.cells a T)) b S;have d:(w.alloc (.cells a T)).heap.size=w.heap.size+1:=by simp
 rw[d]at c;exact⟨(c.2.block _ (by omega)).trans f,c.1,e.trans (c.2.mono (by omega))⟩
theorem Wi (w:World) (a b c:Array Value) (T S R:TypeId):(((w.alloc (.cells a T)).alloc (.cells b S)).alloc (.cells c R)).heap[w.heap.size]?=some (.cells a T (0,0))∧(((w.alloc (.cells a T)).alloc (.cells b S)).alloc (.cells c R)).heap[w.heap.size+1]?=some (.cells b S (0,0))∧(((w.alloc (.cells a T)).alloc (.cells b S)).alloc (.cells c R)).heap[w.heap.size+1+1]?=some (.cells c R (0,0))∧Below w.heap.size w (((w.alloc (.cells a T)).alloc (.cells b S)).alloc (.cells c R)):=by
 obtain⟨h,g,f⟩:=jC w a b T S;have d:=iG ((w.alloc (.cells a T)).alloc (.cells b S)) c R;have e:((w.alloc (.cells a T)).alloc (.cells b S)).heap.size=w.heap.size+1+1:=by simp
 rw[e]at d;exact⟨(d.2.block _ (by omega)).trans h,(d.2.block _ (by omega)).trans g,d.1,f.trans (d.2.mono (by omega))⟩
end qB
namespace Ee
open Go.RowKit bZ qB
def OB (w:World) (g:Nat) (s h:ByteArray) (p n:Int):Prop:=w.heap[g]?=some (.cells #[.string s,.string h,.int .i64 p,.int .i64 n] 32 (0,0))
section
variable {w w':World} {g:Nat} {s h:ByteArray} {p n:Int}
theorem OB.lt (x:OB w g s h p n):g<w.heap.size:=(Array.getElem?_eq_some_iff.1 x).1
theorem OB.below (x:OB w g s h p n) (a:Below w.heap.size w w'):OB w' g s h p n:=(a.block g x.lt).trans x
theorem OB.facts (x:OB w g s h p n):w.cell? ⟨g,0,none⟩=some (.string s)∧w.cell? ⟨g,1,none⟩=some (.string h)∧w.cell? ⟨g,2,none⟩=some (.int .i64 p)∧w.cell? ⟨g,3,none⟩=some (.int .i64 n):=
 ⟨cell_of_row w g 0 _ _ _ x,cell_of_row w g 1 _ _ _ x,cell_of_row w g 2 _ _ _ x,cell_of_row w g 3 _ _ _ x⟩
end
theorem nY (a i:ByteArray) (p1 h:Int) (w:World):Calls prog 9 #[.agg #[.string a,.string i,.int .i64 p1,.int .i64 h]] w fun e w'=>e=.returned (.bool (decide (a.data.toList≠[])))∧Below w.heap.size w w':=by
 obtain⟨b,c⟩:∃b,b=decide (a.data.toList≠[]):=⟨_,rfl⟩;rw[←c];by_cases hs:a.data.toList=[]
 ·have g:(a.toList==[])=true:=by rw[tl,hs];rfl
  have f:a.toList=[]:=by rw[tl,hs]
  have d:Hid (b=false):=by show _=_;rw[c,hs];rfl
  clear hs c;go_enter func9,ntmps9;go_wp2;go_ret;exact⟨by rw[d.out];first|done|rfl,(Below.refl _ _).alloc (Nat.le_refl _) _⟩
 have g:(a.toList==[])=false:=by rw[tl,beq_eq_false_iff_ne];exact hs
 have f:¬a.toList=[]:=by rw[tl];exact hs
 have d:Hid (b=true):=by show _=_;rw[c];simpa using hs
 clear hs c;go_enter func9,ntmps9;go_wp2;go_ret;exact⟨by rw[d.out];first|done|rfl,(Below.refl _ _).alloc (Nat.le_refl _) _⟩
end Ee
namespace aeG
open Go.RowKit Base aV ig dJ
theorem EW (w:World) (s:ByteArray) (p:Nat):Below w.heap.size w (w.iter s p):=(Below.refl _ _).alloc (Nat.le_refl _) _
theorem Cm (r:Int) (w:World) (c:128≤r):Calls prog 185 #[.int .i32 r] w fun e w'=>e=.returned (.bool (validRune r))∧w=w':=by
 have a:(0:Int)≤r:=by omega
 by_cases h1:r<55296
 ·have HV:Hid (validRune r=true):=decide_eq_true (.inl ⟨a,h1⟩);go_enter func185,ntmps185;go_wp2;go_ret;exact⟨aH HV.symm,rfl⟩
 by_cases h2:57343<r
 ·by_cases h3:r≤1114111
  ·have HV:Hid (validRune r=true):=decide_eq_true (.inr ⟨h2,h3⟩);go_enter func185,ntmps185;go_wp2;go_ret;exact⟨aH HV.symm,rfl⟩
  have HV:Hid (validRune r=false):=decide_eq_false (by omega);go_enter func185,ntmps185;go_wp2;go_ret;exact⟨aH HV.symm,rfl⟩
 have HV:Hid (validRune r=false):=decide_eq_false (by omega);go_enter func185,ntmps185;go_wp2;go_ret;exact⟨aH HV.symm,rfl⟩
def two:ByteArray:=⟨#[47,92]⟩
theorem XC (r:Int) (w:World) (x:128≤r):Calls prog 159 #[.string two,.int .i32 r] w fun e w'=>e=.returned (.int .i64 (-1))∧Below w.heap.size w w':=by
 have V:(0:Int)≤r:=by omega
 have Q:¬r<128:=by omega
 obtain⟨T,j⟩:∃T,T=two:=⟨_,rfl⟩;have n:T.size=2:=by rw[j];rfl
 have m:∀h,T[0]'h=47:=by subst j;intro h;rfl
 have l:∀h,T[1]'h=92:=by subst j;intro h;rfl
 rw[←j];by_cases hE:r=65533
 ·subst hE;have H:∀ty,(Instr.next (.pointer (some ⟨w.heap.size,0,none⟩)) true ty).run prog (w.iter T 0)=.ok (.tuple #[.bool true,.int .i64 0,.int .i32 47]) (w.iter T 1):=fun ty=>by
   have:=run_next_ascii (P:=prog) w T 0 ty (by omega) (by rw[m];decide);rw[m]at this;exact this
  have G:∀ty,(Instr.next (.pointer (some ⟨w.heap.size,0,none⟩)) true ty).run prog (w.iter T 1)=.ok (.tuple #[.bool true,.int .i64 1,.int .i32 92]) (w.iter T 2):=fun ty=>by
   have:=run_next_ascii (P:=prog) w T 1 ty (by omega) (by rw[l];decide);rw[l]at this;exact this
  have F:∀ty,(Instr.next (.pointer (some ⟨w.heap.size,0,none⟩)) true ty).run prog (w.iter T 2)=.ok (.tuple #[.bool false]) (w.iter T 2):=fun ty=>run_next_end w T 2 ty (by omega);clear j m l n;go_enter func159,ntmps159;go_wp2
  go_loopg [5,6] 2 (fun g _ _ wx=>∃i:Nat,i+g=2∧wx=w.iter T i)
  case atStart=>exact⟨0,rfl,rfl⟩
  case round=>
   obtain⟨i,I,rfl⟩:=hrel;cases gk with
   |zero=>
    obtain rfl:i=2:=by omega
    go_wp2;go_ret;exact⟨rfl,EW _ _ _⟩
   |succ g=>
    cases g with
    |zero=>
     obtain rfl:i=1:=by omega
     go_wp2
     go_roundg 0
     case measure=>omega
     case rel=>exact⟨2,rfl,rfl⟩
    |succ g=>
     obtain rfl:g=0:=by omega
     obtain rfl:i=0:=by omega
     go_wp2
     go_roundg 1
     case measure=>omega
     case rel=>exact⟨1,rfl,rfl⟩
 cases hv:validRune r with
 |false=>
  have HV:=hid hv;clear j m l n hv;go_enter func159,ntmps159;go_wp2_with fail
  refine(Cm r _ x).mono ?_;rintro e B ⟨rfl,rfl⟩;rw[HV.out];go_wp2;go_ret;exact⟨rfl,Below.refl _ _⟩
 | true=>
  have HV:=hid hv;obtain⟨v,s,a⟩:=encode_facts r (by rw[validRune_eq];exact hv) x;obtain⟨E,k⟩:∃E,E=Utf8.encode r:=⟨_,rfl⟩;rw[←k]at v s a;have J:∀w:World,(convert 21 9 (.int .i32 r)).run prog w=.ok (.string E) w:=fun w=>by
   rw[k];exact run_convert_int_string w _ _ .i32 r (by rw[underlying21];rfl) underlying9
  clear j hv k;by_cases h2:E.size=2
  ·obtain ⟨c,A⟩:∃c,c=E[1]'(by omega):=⟨_,rfl⟩;have f:128≤c.toNat:=by
    have:=a (by omega);rw[A];have e:E.size - 1=1:=by omega
    simpa[e]using this
   have N:=l (by omega);have D:((92:Int) !=(c.toNat:Int))=true:=by simp;omega
   have L:E[1]'(by omega)=c:=A.symm;have W:(E.size:Int) - 1=1:=by omega
   clear a v s A f m;go_enter func159,ntmps159;go_wp2_with fail
   refine(Cm r _ x).mono ?_;rintro e B ⟨rfl,rfl⟩;rw[HV.out];go_wp2
   go_step3
   go_wp2
   go_loopg [9] 0 (fun _ s9 wx=>s9=.int .i64 1∧wx=w)
   case atStart=>exact⟨int_eq (by omega),rfl⟩
   case round=>
    obtain⟨rfl,rfl⟩:=hrel;go_wp2
    go_step3
    go_wp2
    go_region
    go_wp2_with fail
    refine dG (by kernel_rfl) [is (.string T),is (.int .i64 1),is (.int .i64 2),is (.string ByteArray.empty),is (.string E),is (.int .i64 1),is (.int .u8 (c.toNat:Int)),is (.int .i64 (-1)),is (.int .i64 (-1))] [[],[],[1],[0,2],[],[],[4,5],[3,6],[7]] (by kernel_rfl) ?_ ?_
    ·refine⟨?_,?_,?_,?_,?_,?_,?_,?_,?_,trivial⟩;all_goals(intro t C q hh K d;simp only[iQ,Act.put,Nat.reduceAdd,Nat.reduceEqDiff,reduceIte]at hh d⊢;(try simp only[hh]at d⊢);clear hh;go_simp)
     iterate 2 · exact d _ _ aZ rfl
     ·first|exact d _ _ aZ rfl|exact d _ _ aZ (jL (by omega) (by omega))
     iterate 4 · exact d _ _ aZ rfl
     ·refine(strings_IndexByte ByteArray.empty _ _).mono ?_;rintro e O ⟨rfl,z⟩;subst z;exact d _ _ aZ rfl
     exact d _ _ aZ rfl
    intro t C q hh;have y:=aO hh 8 (by decide);simp only[pick]at y;replace y:t 8=(.int .i64 (-1)):=y;clear hh;simp only[iQ,Act.put,Nat.reduceAdd,Nat.reduceEqDiff,reduceIte];simp only[y];go_wp2;rw[Exit.noGoto_ret];go_simp;go_ret;exact⟨rfl,Vh (Below.refl _ _) q⟩
  have X:3≤E.size:=by omega
  clear a m l h2;have q3:¬((E.size:Int) - 1<2):=by omega
  go_enter func159,ntmps159;go_wp2_with fail
  refine(Cm r _ x).mono ?_;rintro e B ⟨rfl,rfl⟩;rw[HV.out];go_wp2
  go_step3
  go_wp2
  go_loopg [9] 0 (fun _ s9 wx=>s9=.int .i64 ((E.size:Int) - 1)∧wx=w)
  case atStart=>exact⟨rfl,rfl⟩
  case round=>
   obtain⟨rfl,rfl⟩:=hrel;go_wp2;rw[Exit.noGoto_ret];go_ret;exact⟨rfl,Below.refl _ _⟩
theorem WB (r:Int) (w:World) (c:0≤r) (a:r<128):Calls prog 159 #[.string two,.int .i32 r] w fun e w'=>e=.returned (.int .i64 (Lib.indexByte two.data.toList r.toNat.toUInt8))∧w'=w:=Any.strings_IndexRune_ascii {l153 with} two r w c a
theorem X8 (c:UInt8) (h:128≤c.toNat) (sp:Bool):bU sp c=false:=by
 have d:c≠47:=by rintro rfl;exact absurd h (by decide)
 have a:c≠92:=by rintro rfl;exact absurd h (by decide)
 unfold bU;rw[decide_eq_false d,decide_eq_false a];cases sp<;>rfl
theorem acs (s:ByteArray) (i:Nat) (h:i<s.size):(s.get! i)=s[i]'h:=by
 simp[ByteArray.get!,getElem!_pos,h];rfl
theorem wide (s:ByteArray) (i:Nat) (h:i<s.size) (c:128≤(s[i]'h).toNat):i+(Utf8.decode s i).2≤s.size∧∀j (hj:j<s.size),i≤j→j<i+(Utf8.decode s i).2→128≤(s[j]'hj).toNat:=by
 have f:¬(s[i]'h).toNat<128:=by omega
 have one:i+1≤s.size∧∀j (hj:j<s.size),i≤j→j<i+1→128≤(s[j]'hj).toNat:=⟨by omega,fun j hj h1 h2=>by
  obtain rfl:j=i:=by omega
  exact c⟩
 simp only[Utf8.decode,get_at s i h,f,if_false];have a:∀k,(decide (i+k<s.size)&&(s.get! (i+k)).toNat / 64==2)=true→∃hk:i+k<s.size,128≤(s[i+k]'hk).toNat:=fun k hk=>by
  simp only[Bool.and_eq_true,decide_eq_true_eq,beq_iff_eq]at hk;refine⟨hk.1,?_⟩;have:=hk.2;rw[acs s _ hk.1]at this;omega
 split
 ·rename_i h2;simp only[Bool.and_eq_true]at h2;obtain⟨d,b1⟩:=a 1 (by simpa using h2.2);split
  ·refine⟨by show i+2≤_;omega,fun j hj h1 h2=>?_⟩;replace h2:j<i+2:=h2;have:j=i∨j=i+1:=by omega
   rcases this with rfl|rfl
   ·exact c
   exact b1
  exact one
 split
 ·rename_i h2;simp only[Bool.and_eq_true]at h2;obtain⟨d,b1⟩:=a 1 (by simpa using h2.1.2);obtain⟨e,b2⟩:=a 2 (by simpa using h2.2);split
  ·refine⟨by show i+3≤_;omega,fun j hj h1 h2=>?_⟩;replace h2:j<i+3:=h2;have:j=i∨j=i+1∨j=i+2:=by omega
   rcases this with rfl|rfl|rfl
   ·exact c
   ·exact b1
   exact b2
  exact one
 split
 ·rename_i h2;simp only[Bool.and_eq_true]at h2;obtain⟨d,b1⟩:=a 1 (by simpa using h2.1.1.2);obtain⟨e,b2⟩:=a 2 (by simpa using h2.1.2);obtain⟨l,g⟩:=a 3 (by simpa using h2.2);split
  ·refine⟨by show i+4≤_;omega,fun j hj h1 h2=>?_⟩;replace h2:j<i+4:=h2;have:j=i∨j=i+1∨j=i+2∨j=i+3:=by omega
   rcases this with rfl|rfl|rfl|rfl
   ·exact c
   ·exact b1
   ·exact b2
   exact g
  exact one
 exact one
def adv (w:World) (k:Nat) (s:ByteArray) (p:Nat):World:={w with heap:=w.heap.setIfInBounds k (.stringIter s p)}
theorem ab7 (w:World) (k:Nat) (s:ByteArray) (p:Nat) (h:k<w.heap.size):(adv w k s p).heap[k]?=some (.stringIter s p):=by
 show(w.heap.setIfInBounds k _)[k]?=_;simp[h]
theorem RZ {w0 w:World} (h:Below w0.heap.size w0 w) (s:ByteArray) (p:Nat):Below w0.heap.size w0 (adv w w0.heap.size s p):=
 ⟨h.os,h.tape,h.output,by show _≤(w.heap.setIfInBounds _ _).size;simpa using h.size,fun k hk=>by
  show(w.heap.setIfInBounds _ _)[k]?=_
  rw[Array.getElem?_setIfInBounds_ne (by omega)]
  exact h.block k hk⟩
theorem next_any {P:Program} (w:World) (k:Nat) (s:ByteArray) (a:Nat) (c:TypeId) (d:w.heap[k]?=some (.stringIter s a)) (h:a<s.size):
  (Instr.next (.pointer (some ⟨k,0,none⟩)) true c).run P w=.ok (.tuple #[.bool true,.int .i64 a,.int .i32 (Utf8.decode s a).1]) (adv w k s (a+(Utf8.decode s a).2)):=by
 simp only[Instr.next,getObj,setObj,Sem.run_bind,Sem.run,d,Result.andThen,h,if_true];simp[goInt,adv]
theorem WC {P:Program} (w:World) (k:Nat) (s:ByteArray) (a:Nat) (c:TypeId) (d:w.heap[k]?=some (.stringIter s a)) (h:¬a<s.size):
  (Instr.next (.pointer (some ⟨k,0,none⟩)) true c).run P w=.ok (.tuple #[.bool false]) w:=by
 simp[Instr.next,getObj,Sem.run,d,h]
theorem short_any (s:ByteArray) (w:World) (h8:s.size≤8):
  Calls prog 135 #[.string s,.string two] w fun e w'=>e=.returned (.int .i64 (Lib.indexAny s.data.toList [47,92]))∧Below w.heap.size w w':=by
 have O:two.toList.isEmpty=false:=by unfold two;rw[ByteArray.toList_mk];rfl
 have H:((two.size:Int)==1)=false:=rfl;have a3:decide ((8:Int)<(s.size:Int))=false:=decide_eq_false (by omega);have hL:s.data.toList.length=s.size:=Array.length_toList;have HL:=hid hL;clear hL;have c:=WB;have a:=XC;obtain⟨T,Z⟩:∃T,T=two:=⟨_,rfl⟩;rw[←Z]at c a;have h:=hid c;have C:=hid a;clear c a;rw[←Z]at O H⊢;have HT:=hid Z;clear Z;go_enter func135,ntmps135;go_wp2_with fail
 refine(Any.strings_shouldUseASCIISet {l153 with} _ _).mono ?_;rintro e f ⟨rfl,a0⟩;subst a0;rw[a3];go_wp2
 go_loopg [9,10] s.size (fun g _ _ wx=>∃i:Nat,i≤s.size∧s.size≤i+g∧wx.heap[f.heap.size]?=some (.stringIter s i)∧Hid (Below f.heap.size f wx)∧Hid (Lib.NoAny s.data.toList [47,92] i))
 case atStart=>exact⟨0,Nat.zero_le _,by omega,World.iter_heap _ _ _,EW _ _ _,Lib.NoAny.zero _ _⟩
 case round=>
  obtain⟨i,a8,b0,hit,HB,HN⟩:=hrel;have l:f.heap.size<wr.heap.size:=(Array.getElem?_eq_some_iff.1 hit).1;by_cases hi:i<s.size
  ·obtain ⟨g,rfl⟩:∃g,gk=g+1:=⟨gk - 1,by omega⟩;obtain⟨x,hx⟩:∃x:UInt8,s[i]'hi=x:=⟨_,rfl⟩;have t:s.data.toList[i]?=some x:=by rw[←hx];exact Lib.data_getElem? s i hi
   have y:=fun ty=>next_any (P:=prog) wr f.heap.size s i ty hit hi;obtain⟨r,I⟩:∃r:Nat,r=(Utf8.decode s i).1:=⟨_,rfl⟩;obtain⟨d,Q⟩:∃d:Nat,d=(Utf8.decode s i).2:=⟨_,rfl⟩;rw[←I,←Q]at y;obtain⟨F,k⟩:∃F,F=adv wr f.heap.size s (i+d):=⟨_,rfl⟩;have z:F.heap[f.heap.size]?=some (.stringIter s (i+d)):=by rw[k];exact ab7 _ _ _ _ l
   have E:Hid (Below f.heap.size f F):=by show Below _ _ _;rw[k];exact RZ HB _ _
   have L:f.heap.size<F.heap.size:=(Array.getElem?_eq_some_iff.1 z).1;rw[←k]at y;have V:=hid z;have a5:=hid L;clear k hit l z L;by_cases hx128:x.toNat<128
   ·obtain rfl:d=1:=by rw[Q,decode_ascii s i hi (by rw[hx];exact hx128)]
    obtain rfl:r=x.toNat:=by rw[I,decode_ascii s i hi (by rw[hx];exact hx128),hx]
    have Hx:=hid t;have X:Hid (((x.toNat:Int)).toNat.toUInt8=x):=by show _=_;simp
    have q:=hid (Lib.contains_iff_indexByte [47,92] x);have G:(0:Int)≤(x.toNat:Int):=by omega
    clear t hx I Q;cases hin:([47,92]:List UInt8).contains x
    ·have a1:¬((0:Int)≤Lib.indexByte T.data.toList x):=by rw[HT.out];exact of_decide_eq_false (q.symm.trans hin)
     have D:=hid hin;clear hin;go_wp2_with fail
     refine(h _ _ G (by omega)).mono ?_;rintro e Y ⟨rfl,v⟩;subst v;rw[X.out];go_wp2
     go_roundg g
     case measure=>omega
     case rel=>exact⟨i+1,by omega,by omega,V,E,HN.succ Hx D⟩
    ·have a1:(0:Int)≤Lib.indexByte T.data.toList x:=by rw[HT.out];exact of_decide_eq_true (q.symm.trans hin)
     have D:=hid hin;clear hin;go_wp2_with fail
     refine(h _ _ G (by omega)).mono ?_;rintro e Y ⟨rfl,v⟩;subst v;rw[X.out];go_wp2;go_ret;exact⟨by rw[Lib.indexAny_hit HN.out Hx.out D.out];rfl,E⟩
   ·obtain ⟨n,J⟩:=decode_high s i hi (by rw[hx];omega);have B:=wide s i hi (by rw[hx];omega);rw[←I]at n;rw[←Q]at J B;have a4:Hid (Lib.NoAny s.data.toList [47,92] (i+d)):=fun j b hj hb=>by
     by_cases hji:j<i
     ·exact HN j b hji hb
     ·obtain⟨N,e⟩:=List.getElem?_eq_some_iff.1 hb;have m:j<s.size:=by rw[HL.out]at N;exact N
      have:=B.2 j m (by omega) hj;have a2:s[j]'m=b:=e;rw[a2]at this;have:=X8 b this true;rw[←Qk]at this;exact this
    have a9:=B.1;have W:Hid (128≤(r:Int)):=by show _≤_;omega
    clear I Q hx t n;go_wp2_with fail
    refine(C _ _ W).mono ?_;rintro e Y ⟨rfl,A⟩;have a6:Hid (Y.heap[f.heap.size]?=some (.stringIter s (i+d))):=(A.block _ a5).trans V;have a7:Hid (Below f.heap.size f Y):=bD E A;clear A;go_wp2
    go_roundg g
    case measure=>omega
    case rel=>exact⟨i+d,by omega,by omega,a6,a7,a4⟩
  ·obtain rfl:i=s.size:=by omega
   have y:=fun ty=>WC (P:=prog) wr f.heap.size s s.size ty hit hi;go_wp2;go_ret;exact⟨by rw[Lib.indexAny_none (by rw[HL.out];exact HN.out)];rfl,HB⟩
end aeG
namespace Jf
open Go.RowKit Base aV jr qU ig
def cs (sp:Bool):ByteArray:=ah (Vm sp)
theorem Oa (sp:Bool) (s:ByteArray) (w:World) (c:s.size≤1073741824):
  Calls prog 135 #[.string s,.string (cs sp)] w fun e w'=>e=.returned (.int .i64 (if upto sp s.data.toList<s.size then(upto sp s.data.toList:Int)else -1))∧Below w.heap.size w w':=by
 have a:s.data.toList.length=s.size:=Array.length_toList;have hi:=Ij sp s.data.toList;rw[a]at hi;rw[←hi];cases sp with
 |false=>exact(strings_IndexAny_one s (cs false) w rfl (by intro j b h;match j,h with|0,h=>simp[cs,Vm,ah]at h;subst h;decide)).mono fun e w' ⟨h1,h2⟩=>⟨h1,h2▸Below.refl _ _⟩
 |true=>
  by_cases h8:8<s.size
  ·exact strings_IndexAny_long s (cs true) w (Nat.le_refl _) h8 (by omega) (by decide) (by intro j b h;match j,h with|0,h=>(simp[cs,Vm,ah]at h;subst h;decide)|1,h=>(simp[cs,Vm,ah]at h;subst h;decide))
  ·exact aeG.short_any s w (by omega)
theorem uh (file sp:Bool) (A:Option Addr) (n j:Nat) (l:List ByteArray) (s:ByteArray) (w:World) (hR:dW w A n (l.map Value.string)) (b0:n≤j) (b3:j≤maxLen) (J:n+s.size≤900000):
  Calls prog 134 #[.bool file,.bool sp,.slice A n j,.string s] w (ku w.heap.size w (wb file sp l [] s.data.toList)):=by
 have H:l.length=n:=by rw[←hR.1,List.length_map]
 have G:s.data.toList.length=s.size:=Array.length_toList;obtain⟨S,hS⟩:∃S,S=wb file sp l [] s.data.toList:=⟨_,rfl⟩;rw[←hS];have HS:=hid hS;have HR:=hid hR;have HL:=hid H;have a3:=hid G;have a0:n≤1000000:=by omega
 clear hS hR H G;cases sp;focus
  have q:Hid (∀(s:ByteArray) (w:World),s.size≤1073741824→Calls prog 135 #[.string s,.string ⟨#[47]⟩] w fun e w'=>e=.returned (.int .i64 (if upto false s.data.toList<s.size then(upto false s.data.toList:Int)else -1))∧Below w.heap.size w w'):=fun s w h=>Oa false s w h;obtain⟨p,W⟩:∃p,p=false:=⟨_,rfl⟩
 rotate_left
 focus
  have q:Hid (∀(s:ByteArray) (w:World),s.size≤1073741824→Calls prog 135 #[.string s,.string ⟨#[47,92]⟩] w fun e w'=>e=.returned (.int .i64 (if upto true s.data.toList<s.size then(upto true s.data.toList:Int)else -1))∧Below w.heap.size w w'):=fun s w h=>Oa true s w h;obtain⟨p,W⟩:∃p,p=true:=⟨_,rfl⟩
 rotate_left
 all_goals
  rw[←W]at q HS;clear W;go_enter func134,ntmps134;go_wp2_with fail
  refine(uo A n j l _ HR a0).mono ?_;rintro e w2 ⟨v,rfl,f,a1⟩;have a5:=hid f;clear f;go_wp2;go_loopw [3,10,11] (fun vs vo _ wr=>∃(M:List UInt8) (d:List ByteArray),vs=.string (ah M)∧d.length+M.length≤n+s.size∧Hid (wr.ownsRow w.heap.size 9 1 vo d.length (d.map Value.string))∧Hid (Below w.heap.size w wr)∧Hid (S=wb file p d [] M)) (fun vs _ _ _=>match vs with| .string x=>x.size|_=>0)
  case atStart=>exact⟨s.data.toList,l,by rw[bF],by rw[HL.out,a3.out];exact Nat.le_refl _,a5,a1,HS⟩
  case round=>
   obtain⟨M,d,rfl,r,HO,O,HW⟩:=hrel;obtain⟨U,hU⟩:∃U,U=upto p M:=⟨_,rfl⟩;obtain⟨Z,L⟩:∃Z,Z=ah M:=⟨_,rfl⟩;have t:Z.size=M.length:=by rw[L,ak]
   have E:Z.data.toList=M:=by rw[L];rfl
   have V:U≤M.length:=by rw[hU];exact Ku p M
   rw[←L];have I:=hid hU;have i:=hid E;clear hU L E;obtain⟨m,J⟩:∃m,m=M.length:=⟨_,rfl⟩;obtain⟨k,hk⟩:∃k,k=d.length:=⟨_,rfl⟩;rw[←J]at V r t;rw[←hk]at r;have N:=hid J;have HK:=hid hk;clear J hk;by_cases hlt:U<m
   ·have D:Hid ((if upto p Z.data.toList<Z.size then(upto p Z.data.toList:Int)else -1)=(U:Int)):=by
     show _=_;rw[i.out,←I.out,if_pos (by omega)]
    have C:Hid (Z.extract 0 U=ah (M.take U)):=by show _=_;rw[dJ.ext_take,i.out]
    have B:Hid (Z.extract (U+1) m=ah (M.drop (U+1))):=by show _=_;rw[dJ.ext_drop _ _ _ t.symm,i.out]
    obtain⟨X,hX⟩:∃X,X=Z.extract 0 U:=⟨_,rfl⟩;obtain⟨Y,hY⟩:∃Y,Y=Z.extract (U+1) m:=⟨_,rfl⟩;rw[←hX]at C;rw[←hY]at B;have a9:Z.extract 0 U=X:=hX.symm;have a8:Z.extract (U+1) m=Y:=hY.symm;clear hX hY;have sV:X.size≤1073741824:=by rw[C.out,ak,List.length_take];omega
    have F:Y.size<m:=by rw[B.out,ak,List.length_drop,←N.out];omega
    have T:Hid (X.data.toList=M.take U):=by show _=_;rw[C.out];rfl
    have a2:=hid F;have z:k≤1000000:=by omega
    have y:=nV file false d X.data.toList;rw[←HK.out]at y;have a6:=hid y;clear y F;go_wp2_with fail
    refine(q Z _ (by omega)).mono ?_;rintro e w3 ⟨rfl,c⟩;rw[D.out];go_wp2_with fail
    refine(NC file false w.heap.size _ d X _ (aY HO c) (Nat.le_trans O.size c.size) (by rw[←HK.out];exact z) sV).mono ?_;rintro e P ⟨Q,rfl,a,g⟩;have a4:=hid a;have a7:Hid (Below w.heap.size w P):=(bD O c).trans (g.mono (Nat.le_refl _));clear a g c;go_wp2;go_roundw
    case rel=>exact⟨M.drop (U+1),sH file false d X.data.toList,by rw[B.out],by rw[List.length_drop,←N.out];have:=a6.out;omega,a4,a7,by show _=_;rw[HW.out,RI file p M d [] (by rw[←I.out,←N.out];exact hlt),←I.out,T.out];rfl⟩
    case measure=>show Y.size<Z.size;rw[t];exact a2
   ·have D:Hid ((if upto p Z.data.toList<Z.size then(upto p Z.data.toList:Int)else -1)= -1):=by
     show _=_;rw[i.out,←I.out,if_neg (by omega)]
    have z:k≤1000000:=by omega
    have HE:Hid (S=sH file true d Z.data.toList):=by
     show _=_;rw[HW.out,RH file p M d [] (by rw[←I.out,←N.out];exact hlt),i.out];rfl
    go_wp2_with fail
    refine(q Z _ (by omega)).mono ?_;rintro e w3 ⟨rfl,c⟩;rw[D.out];go_wp2_with fail
    refine(NC file true w.heap.size _ d Z _ (aY HO c) (Nat.le_trans O.size c.size) (by rw[←HK.out];exact z) (by omega)).mono ?_;rintro e P ⟨Q,rfl,a,g⟩;have HX:Hid (ku w.heap.size w S (.returned Q) P):=⟨Q,rfl,by rw[HE.out];exact a,(bD O c).trans (g.mono (Nat.le_refl _))⟩;clear a g c;go_wp2;go_ret;exact HX
end Jf
namespace vH
open Go.RowKit Base dJ aV jr ig Jf fJ aC
theorem dl (s:ByteArray):s.data.toList.length=s.size:=Array.length_toList
theorem ext_left (s:ByteArray) (k:Nat):(s.extract 0 k).data.toList=s.data.toList.take k:=by
 rw[ByteArray.data_extract];simp[Array.toList_extract,List.extract_eq_take_drop]
theorem ext_right (s:ByteArray) (k:Nat):(s.extract k s.size).data.toList=s.data.toList.drop k:=by
 rw[ByteArray.data_extract];simp only[Array.toList_extract,List.extract_eq_take_drop];rw[List.take_of_length_le];rw[List.length_drop,dl];omega
theorem F7 (s:ByteArray) (k:Nat):s.extract 0 k=ah (s.data.toList.take k):=by rw[←ext_left,bF]
theorem kY (s:ByteArray) (k:Nat):s.extract k s.size=ah (s.data.toList.drop k):=by rw[←ext_right,bF]
theorem ix (sp:Bool) (c:UInt8):decide (0≤Lib.indexByte (Vm sp) c)=bU sp c:=by
 have H:∀(sp:Bool) (n:Fin 256),decide (0≤Lib.indexByte (Vm sp) (UInt8.ofNat n.val))=bU sp (UInt8.ofNat n.val):=by decide+kernel
 have:=H sp ⟨c.toNat,c.toNat_lt⟩;simpa using this
theorem o8 (s:ByteArray) (w:World):Calls prog 37 #[.string s] w fun e w'=>e=.returned (.string (cs (aj s.data.toList)))∧w'=w:=by
 have a:=fun w=>je s w;generalize aj s.data.toList=b at a⊢;have c:=hid a;clear a;cases b with
 |true=>
  go_enter func37,ntmps37;go_wp2_with fail
  refine(c _).mono ?_;rintro e d ⟨rfl,rfl⟩;go_wp2;go_ret;exact⟨rfl,rfl⟩
 |false=>
  go_enter func37,ntmps37;go_wp2_with fail
  refine(c _).mono ?_;rintro e d ⟨rfl,rfl⟩;go_wp2;go_ret;exact⟨rfl,rfl⟩
theorem Zt (sp:Bool) (s:List UInt8) (k:Nat) (h:k<s.length):iL sp s k=bU sp s[k]:=by
 unfold iL;rw[List.getElem?_eq_getElem h]
theorem sW (sp:Bool) (s:List UInt8) (k:Nat) (h:¬k<s.length):iL sp s k=false:=by
 unfold iL;rw[List.getElem?_eq_none (by omega)]
theorem kD (sc s:ByteArray) (k:Nat) (w:World) (A:k≤1048576):Calls prog 83 #[.string sc,.string s,.int .i64 (k:Int)] w fun e w'=>e=.returned (.bool (iL (aj sc.data.toList) s.data.toList k))∧Below w.heap.size w w':=by
 have i:=fun w=>o8 sc w;generalize aj sc.data.toList=b at i⊢;have y:=hid i;clear i;by_cases h:k<s.size
 ·obtain ⟨c,v⟩:∃c,s[k]=c:=⟨_,rfl⟩;have j:iL b s.data.toList k=bU b c:=by
   rw[Zt b _ k (by rw[dl];exact h)];exact congrArg (bU b) v
  have hx:=fun w=>strings_IndexByte (cs b) (c.toNat:Int) w;have hi:=ix b c;have e:(cs b).data.toList=Vm b:=rfl;have q:((c.toNat:Int)).toNat.toUInt8=c:=by simp
  rw[e,q]at hx;rw[j,←hi];obtain⟨z,n⟩:∃z,z=Lib.indexByte (Vm b) c:=⟨_,rfl⟩;rw[←n]at hx⊢;have x:=hid hx;have m:(k:Int)<(s.size:Int):=by omega
  clear hx hi e q j n;go_enter func83,ntmps83;go_upto_region 1 with(fail)
  refine dG (by kernel_rfl) [is (.int .i64 (k:Int)),is (.string s),is (.int .i64 (s.size:Int)),is (.bool true),is (.bool true),is (.string sc),is (.string (cs b)),is (.string s),is (.int .i64 (k:Int)),is (.int .u8 (c.toNat:Int)),is (.int .i64 z),is (.bool (decide (0≤z))),is (.bool (decide (0≤z))),is (.bool (decide (0≤z)))] [[],[],[1],[0,2],[3],[4],[4,5],[4],[4],[4,7,8],[4,6,9],[4,10],[4,11],[12]] (by kernel_rfl) ?_ ?_
  ·refine⟨?_,?_,?_,?_,?_,?_,?_,?_,?_,?_,?_,?_,?_,?_,trivial⟩;all_goals(intro t l f hh K a;simp only[iQ,Act.put,Nat.reduceAdd,Nat.reduceEqDiff,reduceIte]at hh a⊢;(try simp only[hh]at a⊢);clear hh;go_simp)
   iterate 3 · exact a _ _ aZ rfl
   ·first|exact a _ _ aZ rfl|exact a _ _ aZ (jL (by omega) (by omega))
   iterate 2 · exact a _ _ aZ rfl
   ·refine(y _).mono ?_;rintro e r ⟨rfl,g⟩;subst g;exact a _ _ aZ rfl
   iterate 3 · exact a _ _ aZ rfl
   ·refine(x _).mono ?_;rintro e r ⟨rfl,g⟩;subst g;exact a _ _ aZ rfl
   ·first|exact a _ _ aZ rfl|exact a _ _ aZ (jL (by omega) (by omega))
   iterate 2 · exact a _ _ aZ rfl
  intro t l f hh;have d:=aO hh 13 (by decide);simp only[pick]at d;replace d:t 13=(.bool (decide (0≤z))):=d;clear hh;simp only[iQ,Act.put,Nat.reduceAdd,Nat.reduceEqDiff,reduceIte];simp only[d];go_wp2;go_ret;exact⟨rfl,f⟩
 have j:iL b s.data.toList k=false:=sW b _ k (by rw[dl];exact h);have m:¬(k:Int)<(s.size:Int):=by omega
 rw[j];clear j h;go_enter func83,ntmps83;go_upto_region 1 with(fail)
 refine dG (by kernel_rfl) [is (.int .i64 (k:Int)),is (.string s),is (.int .i64 (s.size:Int)),is (.bool false),is (.bool false),is (undef),is (undef),is (undef),is (undef),is (undef),is (undef),is (undef),is (.bool false),is (.bool false)] [[],[],[1],[0,2],[3],[4],[4,5],[4],[4],[4,7,8],[4,6,9],[4,10],[4,11],[12]] (by kernel_rfl) ?_ ?_
 ·refine⟨?_,?_,?_,?_,?_,?_,?_,?_,?_,?_,?_,?_,?_,?_,trivial⟩;all_goals(intro t l f hh K a;simp only[iQ,Act.put,Nat.reduceAdd,Nat.reduceEqDiff,reduceIte]at hh a⊢;(try simp only[hh]at a⊢);clear hh;go_simp)
  iterate 3 · exact a _ _ aZ rfl
  ·first|exact a _ _ aZ rfl|exact a _ _ aZ (jL (by omega) (by omega))
  iterate 7 · exact a _ _ aZ rfl
  ·first|exact a _ _ aZ rfl|exact a _ _ aZ (jL (by omega) (by omega))
  iterate 2 · exact a _ _ aZ rfl
 intro t l f hh;have d:=aO hh 13 (by decide);simp only[pick]at d;replace d:t 13=(.bool false):=d;clear hh;simp only[iQ,Act.put,Nat.reduceAdd,Nat.reduceEqDiff,reduceIte];simp only[d];go_wp2;go_ret;exact⟨rfl,f⟩
theorem Ja (sc s:ByteArray) (w:World) (E:s.size≤1073741824):Calls prog 94 #[.string sc,.string s] w fun e w'=>e=.returned (.tuple #[.string (ah (s.data.toList.take (upto (aj sc.data.toList) s.data.toList))),.string (ah (s.data.toList.drop (upto (aj sc.data.toList) s.data.toList)))])∧Below w.heap.size w w':=by
 have a:=fun w=>o8 sc w;generalize aj sc.data.toList=b at a⊢;have hx:=fun w=>Oa b s w E;obtain⟨k,q⟩:∃k,k=upto b s.data.toList:=⟨_,rfl⟩;have c:=Ku b s.data.toList;rw[dl]at c;rw[←q]at hx c⊢;obtain⟨P,l⟩:∃P,P=ah (s.data.toList.take k):=⟨_,rfl⟩;obtain⟨R,j⟩:∃P,P=ah (s.data.toList.drop k):=⟨_,rfl⟩;rw[←l,←j];have z:s.extract 0 k=P:=by rw[F7,l]
 have y:s.extract k s.size=R:=by rw[kY,j]
 have A:=hid a;by_cases h:k<s.size
 ·rw [if_pos h]at hx;have r:=hid hx;have H:¬((k:Int)<0):=by omega
  clear a hx q l j;go_enter func94,ntmps94;go_wp2_with fail
  refine(A _).mono ?_;rintro e D ⟨rfl,rfl⟩;go_wp2_with fail
  refine(r _).mono ?_;rintro e C ⟨rfl,f⟩;have G:(k:Int)≤(s.size:Int):=by omega
  have F:(0:Int)≤(k:Int):=by omega
  go_upto_region 4 with(fail)
  refine dG (by kernel_rfl) [is (.string s),is (.int .i64 (k:Int)),is (.string P),is (.string s),is (.int .i64 (k:Int)),is (.string R),is (.string P),is (.string R)] [[],[],[0,1],[],[],[3,4],[2],[5]] (by kernel_rfl) ?_ ?_
  ·refine ⟨?_,?_,?_,?_,?_,?_,?_,?_,trivial⟩;all_goals(intro t B i hh K g;simp only[iQ,Act.put,Nat.reduceAdd,Nat.reduceEqDiff,reduceIte]at hh g⊢;(try simp only[hh]at g⊢);clear hh)
   iterate 2
    ·go_simp;exact g _ _ aZ rfl
   ·have hx:=z;go_simp;exact g _ _ aZ rfl
   iterate 2
    ·go_simp;exact g _ _ aZ rfl
   ·have hx:=y;go_simp;exact g _ _ aZ rfl
   iterate 2
    ·go_simp;exact g _ _ aZ rfl
  intro t B i hh;have n:=aO hh 6 (by decide);simp only[pick]at n;replace n:t 6=(.string P):=n;have m:=aO hh 7 (by decide);simp only[pick]at m;replace m:t 7=(.string R):=m;clear hh;simp only[iQ,Act.put,Nat.reduceAdd,Nat.reduceEqDiff,reduceIte];simp only[n,m];go_wp2;go_ret2;exact⟨rfl,bD f i⟩
 rw[if_neg h]at hx;have r:=hid hx;have d:k=s.size:=by omega
 have x:P=s:=by rw[l,d,List.take_of_length_le (by rw[dl];exact Nat.le_refl _),bF]
 have v:R=⟨#[]⟩:=by rw[j,d,List.drop_of_length_le (by rw[dl];exact Nat.le_refl _)];rfl
 rw[x,v];clear a hx q l j z y x v h d c;go_enter func94,ntmps94;go_wp2_with fail
 refine(A _).mono ?_;rintro e D ⟨rfl,rfl⟩;go_wp2_with fail
 refine(r _).mono ?_;rintro e C ⟨rfl,f⟩;go_wp2;go_ret2;exact⟨rfl,f⟩
theorem uh (sc:ByteArray) (A:Option Addr) (n a:Nat) (l:List ByteArray) (s:ByteArray) (w:World) (q:dW w A n (l.map Value.string)) (f:n≤a) (g:a≤maxLen) (t:n+s.size≤900000):
  Calls prog 90 #[.string sc,.slice A n a,.string s] w (ku w.heap.size w (walk sc.data.toList l s.data.toList)):=by
 have hq:=beq_data4 sc;obtain⟨b,j⟩:∃b,b=decide (sc.data.toList=aB):=⟨_,rfl⟩;rw[←j]at hq;have d:=fun w=>je sc w;obtain⟨c,h⟩:∃c,c=aj sc.data.toList:=⟨_,rfl⟩;rw[←h]at d;have x:=hid d;have m:walk sc.data.toList l s.data.toList=wb b c l [] s.data.toList:=by unfold walk;rw[←j,←h]
 rw[m];have r:=hid (Jf.uh b c A n a l s w q f g t);generalize wb b c l [] s.data.toList=L at r⊢;clear j h d m q;go_enter func90,ntmps90;go_wp2_with fail
 refine(x _).mono ?_;rintro e B ⟨rfl,rfl⟩;go_wp2_with fail
 refine(r).mono ?_;rintro e z ⟨v,rfl,k,i⟩;have y:=hid k;clear k;go_wp2;go_ret;exact⟨v,rfl,y,i⟩
where
 beq_data4 (sc:ByteArray):(sc.toList==[102,105,108,101])=decide (sc.data.toList=aB):=by
  rw[Lib.toList_data,Bool.eq_iff_iff];exact⟨fun h=>decide_eq_true (beq_iff_eq.1 h),fun h=>beq_iff_eq.2 (of_decide_eq_true h)⟩
theorem uP (sc s:ByteArray) (w:World) (F:s.size≤900000):Calls prog 93 #[.string sc,.string s] w (ku w.heap.size w (aG sc.data.toList s.data.toList)):=by
 have f:=fun w=>je sc w;have d:=fun w=>kD sc s 0 w (by omega);obtain⟨c,q⟩:∃c,c=aj sc.data.toList:=⟨_,rfl⟩;rw[←q]at f d;obtain⟨b,n⟩:∃b,b=iL c s.data.toList 0:=⟨_,rfl⟩;rw[←n]at d;have x:=hid f;have l:=hid d;obtain⟨L,k⟩:∃L,L=aG sc.data.toList s.data.toList:=⟨_,rfl⟩;rw[←k];unfold aG at k;rw[←q,←n]at k;have j:=hid (fun(s:ByteArray) (w:World) (h:s.size≤900000)=>uh sc none 0 0 [] s w (dW.nil _) (Nat.le_refl _) (Nat.zero_le _) (by omega));by_cases h0:s.data.toList=[]
 ·have I:(s.toList==[])=true:=by rw[Lib.toList_data,h0];rfl
  have H:s.toList=[]:=by rw[Lib.toList_data,h0]
  have C:b=false:=by rw[n,h0];rfl
  subst C;cases c with
  |false=>
   have E:L=[]:=by rw[k,if_pos ⟨h0,rfl⟩]
   clear f d n k q h0;go_enter func93,ntmps93;go_wp2_with fail
   refine(x _).mono ?_;rintro e m ⟨rfl,rfl⟩;go_wp2;go_ret;exact⟨_,rfl,by rw[E];exact World.ownsRow_nil _ _ _ _,Below.refl _ _⟩
  |true=>
   have B:Hid (L=walk sc.data.toList [] s.data.toList):=by show _=_;rw[k,if_neg (by simp),if_neg (by simp)]
   clear f d n k q h0;go_enter func93,ntmps93;go_wp2_with fail
   refine(x _).mono ?_;rintro e m ⟨rfl,rfl⟩;go_wp2_with fail
   refine(l _).mono ?_;rintro e m ⟨rfl,a⟩;go_wp2_with fail
   refine(j s _ F).mono ?_;rintro e z ⟨v,rfl,g,i⟩;rw[←B.out]at g;have y:=hid g;clear g;go_wp2;go_ret;exact⟨v,rfl,aI y a.size,bD a i⟩
 have I:(s.toList==[])=false:=by rw[Lib.toList_data,beq_eq_false_iff_ne];exact h0
 have H:¬s.toList=[]:=by rw[Lib.toList_data];exact h0
 have O:s.toList.isEmpty=false:=by rw[Lib.toList_data];simpa using h0
 have G:1≤s.size:=by
  rw[←dl];cases e:s.data.toList with
  |nil=>exact absurd e h0
  |cons c r=>simp
 have J:(1:Int)≤(s.size:Int):=by omega
 obtain⟨X,A⟩:∃X,X=s.extract 1 s.size:=⟨_,rfl⟩;have t:X.data.toList=s.data.toList.drop 1:=by rw[A,ext_right]
 have D:X.size≤900000:=by rw[A,ByteArray.size_extract];omega
 have B:Hid (L=walk sc.data.toList [] (if b=true then X.data.toList else s.data.toList)):=by show _=_;rw[k,if_neg (fun h=>h0 h.1),t]
 have N:=hid A;clear f d n k q h0 A t;cases b with
 |true=>
  go_enter func93,ntmps93;go_wp2_with fail
  refine(l _).mono ?_;rintro e m ⟨rfl,a⟩;go_wp2_with fail
  rw[←N.out];refine(j X _ D).mono ?_;rintro e z ⟨v,rfl,g,i⟩;have y:Hid (z.ownsRow m.heap.size 9 1 v L.length (L.map Value.string)):=by show World.ownsRow _ _ _ _ _ _ _;rw[B.out];first|(rw[if_pos rfl];exact g)|(rw[if_pos trivial];exact g)
  clear g;go_wp2;go_ret;exact⟨v,rfl,aI y a.size,bD a i⟩
 |false=>
  go_enter func93,ntmps93;go_wp2_with fail
  refine(l _).mono ?_;rintro e m ⟨rfl,a⟩;go_wp2_with fail
  refine(j s _ F).mono ?_;rintro e z ⟨v,rfl,g,i⟩;have y:Hid (z.ownsRow m.heap.size 9 1 v L.length (L.map Value.string)):=by show World.ownsRow _ _ _ _ _ _ _;rw[B.out];first|(rw[if_neg (by simp)];exact g)|(simpa using g)
  clear g;go_wp2;go_ret;exact⟨v,rfl,aI y a.size,bD a i⟩
end vH
namespace pF
open Go.RowKit dw fJ aC vH
theorem rE:∀L:List UInt8,fZ L=none↔∀c ∈ L,c≠64
 |[]=>by simp[fZ]
 | c ::L=>by
  have f:=rE L
  unfold fZ
  cases h:fZ L with
  |some p=>
   constructor
   ·intro e;cases e
   ·intro e
    rw[h]at f
    have:=f.2 fun d a=>e d (by simp[a])
    cases this
  | none=>
   rw[h]at f
   have g:=f.1 rfl
   by_cases hc:c=64
   ·rw[if_pos hc]
    constructor
    ·intro e;cases e
    ·intro e;exact absurd hc (e c (by simp))
   ·rw[if_neg hc]
    constructor
    ·intro _ d a
     rcases List.mem_cons.1 a with rfl|a
     ·exact hc
     ·exact g d a
    ·intro _;rfl
theorem yI (a r:List UInt8) (h:∀c ∈ r,c≠64):fZ (a++64::r)=some (a,r):=by
 induction a with
 |nil=>
  show fZ (64::r)=_;unfold fZ;rw[(rE r).2 h];rfl
 |cons c a ih=>
  show fZ (c::(a++64::r))=_;unfold fZ;rw[ih]
theorem Jj (s:ByteArray) (j:Nat) (h:j<s.data.toList.length):s.data[j]! =s.data.toList[j]:=by
 rw[getElem!_pos s.data j (by simpa using h)];simp
theorem TA (s:ByteArray):(Lib.lastIndexByte s 64= -1∧fZ s.data.toList=none)∨∃k:Nat,k<s.size∧Lib.lastIndexByte s 64=(k:Int)∧fZ s.data.toList=some (s.data.toList.take k,s.data.toList.drop (k+1)):=by
 rcases Lib.lastIdx_spec s 64 s.size with⟨h,g⟩|⟨k,i,h,g,m⟩
 ·refine .inl ⟨h,(rE _).2 fun c hc=>?_⟩;obtain⟨j,d,rfl⟩:=List.getElem_of_mem hc;have:=g j (by rw[←dl];exact d);rw[Jj s j d]at this;intro e;rw[e]at this;exact this rfl
 refine .inr ⟨k,i,h,?_⟩;have a:k<s.data.toList.length:=by rw[dl];exact i
 rw[Jj s k a]at g;have f:s.data.toList[k]=64:=UInt8.toNat_inj.1 (by show _=64;omega);have l:s.data.toList=s.data.toList.take k++64::s.data.toList.drop (k+1):=by
  rw[←f,←List.drop_eq_getElem_cons a,List.take_append_drop]
 conv=>lhs;rw[l]
 refine yI _ _ fun c hc=>?_;obtain⟨j,d,rfl⟩:=List.getElem_of_mem hc;rw[List.length_drop]at d;rw[List.getElem_drop];have:=m (k+1+j) (by omega) (by rw[←dl];omega);rw[Jj s _ (by omega)]at this;intro e;rw[e]at this;exact this rfl
def qG (s:List UInt8) (k:Nat) (i:Bool):List UInt8×List UInt8×Bool:=(s.take k++(jZ i (s.drop k)).1,(jZ i (s.drop k)).2.1,(jZ i (s.drop k)).2.2)
theorem OE (s:List UInt8):qG s 0 false=jZ false s:=by simp[qG]
theorem Td (s:List UInt8) (i:Bool):qG s s.length i=(s,[],false):=by
 unfold qG;rw[List.drop_length,List.take_length];simp[jZ]
theorem OD (s:List UInt8) (k:Nat) (h:k<s.length) (a:s[k]=58):qG s k false=(s.take k,s.drop (k+1),true):=by
 unfold qG;rw[List.drop_eq_getElem_cons h,a,jZ,if_pos ⟨rfl,rfl⟩];simp
theorem zI (s:List UInt8) (k:Nat) (i:Bool) (h:k<s.length) (a:¬(s[k]=58∧i=false)):qG s k i=qG s (k+1) (if s[k]=91 then true else if s[k]=93 then false else i):=by
 unfold qG;rw[List.drop_eq_getElem_cons h,jZ,if_neg a,List.take_succ_eq_append_getElem h];generalize (if s[k]=91 then true else if s[k]=93 then false else i)=b;rw[List.append_assoc];rfl
theorem DL:∀(L:List UInt8) (i:Bool),(jZ i L).1.length≤L.length∧(jZ i L).2.1.length≤L.length
 |[],i=>by simp[jZ]
 |c::L,i=>by
  unfold jZ
  split
  ·simp
  ·have:=DL L (if c=91 then true else if c=93 then false else i)
   generalize (if c=91 then true else if c=93 then false else i)=b at this⊢
   simp only[List.length_cons]
   omega
theorem xI (d:List UInt8) (c:UInt8):jX (d++[c])=min (jX d*10+(c.toNat - 48)) 65536:=by simp[jX]
theorem Qq (c:UInt8) (h:jW c=true):48≤c.toNat∧c.toNat≤57:=by
 unfold jW digit at h;have:=of_decide_eq_true h;omega
def abS (o:Option Int) (e:Ending):Prop:=match o with
 |some z=>e=.returned (.tuple #[.int .i64 z,.bool true])
 |none=>∃z,e=.returned (.tuple #[.int .i64 z,.bool false])
theorem Z4 (au d:List UInt8) (k:Nat) (h:k<d.length) (a:jW d[k]=false):prt au d=none:=by
 unfold prt;rw[if_neg (by rintro rfl;simp at h),if_neg];intro e;have:=List.all_eq_true.1 e d[k] (List.getElem_mem h);rw[a]at this;cases this
theorem MO (au d:List UInt8) (h:d≠[]) (a:d.all jW=true):prt au d=if (jX d:Int)=iE au then some (-1)else if jX d≤65535 then some (jX d:Int)else none:=by
 unfold prt;rw[if_neg h,if_pos a]
theorem GL (d:List UInt8) (k:Nat) (h:k<d.length):(d.take (k+1)).all jW=((d.take k).all jW&&jW d[k]):=by
 rw[List.take_succ_eq_append_getElem h,List.all_append];simp
theorem wL (d:List UInt8) (k:Nat) (h:k<d.length):jX (d.take (k+1))=min (jX (d.take k)*10+(d[k].toNat - 48)) 65536:=by
 rw[List.take_succ_eq_append_getElem h,xI]
def mF (s:List UInt8) (k:Nat):Bool:=match s[k]? with
 |none=>true
 |some c=>letter c.toNat||(decide (k≠0)&&nH c)
theorem Il (s:List UInt8):iY s=(decide (s≠[])&&(List.range s.length).all (mF s)):=by
 cases s with
 |nil=>rfl
 | cons c r=>
  unfold iY;rw[List.length_cons,List.range_succ_eq_map,List.all_cons,List.all_map];have g:mF (c::r) 0=letter c.toNat:=by unfold mF;simp
  rw[g];simp only[ne_eq,reduceCtorEq,not_false_eq_true,decide_true,Bool.true_and];congr 1;have e:∀k,(mF (c::r) ∘ Nat.succ) k=match r[k]? with
    |none=>true
    |some d=>nH d:=by
   intro k;show mF (c::r) (k+1)=_;unfold mF;rw[List.getElem?_cons_succ];cases r[k]? with
   |none=>rfl
   |some d=>
    simp only[ne_eq,Nat.add_eq_zero_iff,Nat.one_ne_zero,and_false,not_false_eq_true,decide_true,Bool.true_and];unfold nH;cases letter d.toNat<;>simp
  rw[Bool.eq_iff_iff,List.all_eq_true,List.all_eq_true];constructor
  ·intro h k a;rw[e k,List.getElem?_eq_getElem (by simpa using a)];exact h _ (List.getElem_mem _)
  intro h d f;obtain⟨k,a,rfl⟩:=List.getElem_of_mem f;have:=h k (by simpa using a);rw[e k,List.getElem?_eq_getElem a]at this;exact this
theorem V6 (s:List UInt8) (k:Nat) (h:k<s.length) (a:mF s k=false):iY s=false:=by
 rw[Il];have:(List.range s.length).all (mF s)=false:=by
  cases e:(List.range s.length).all (mF s)with
  |false=>rfl
  |true=>
   have:=List.all_eq_true.1 e k (by simpa using h);rw[a]at this;cases this
 rw[this,Bool.and_false]
theorem Tv (s:List UInt8) (h:∀k,k<s.length→mF s k=true):iY s=decide (s≠[]):=by
 rw[Il,List.all_eq_true.2 fun k hk=>h k (by simpa using hk),Bool.and_true]
theorem XG (s:List UInt8) (k:Nat) (h:k<s.length):mF s k=(letter s[k].toNat||(decide (k≠0)&&nH s[k])):=by
 unfold mF;rw[List.getElem?_eq_getElem h]
end pF
namespace xR
open Go.RowKit Base dJ dw fJ aC vH pF
theorem xq (c k:UInt8) (h:c=k):((c.toNat:Int)==(k.toNat:Int))=true:=by rw[h];simp
theorem um (c k:UInt8) (h:c≠k):((c.toNat:Int)==(k.toNat:Int))=false:=by
 rw[beq_eq_false_iff_ne];intro e;exact h (UInt8.toNat_inj.1 (by omega))
theorem Dv (s:ByteArray) (w:World) (W:s.size≤1073741824):Calls prog 96 #[.string s] w fun e w'=>e=.returned (.tuple #[.string (ah (jZ false s.data.toList).1),.string (ah (jZ false s.data.toList).2.1),.bool (jZ false s.data.toList).2.2])∧Below w.heap.size w w':=by
 obtain⟨T,z⟩:∃T,T=jZ false s.data.toList:=⟨_,rfl⟩;rw[←z];have B:Hid (qG s.data.toList 0 false=T):=by show _=_;rw[OE,z]
 clear z;go_enter func96,ntmps96;go_wp2;go_loopw [5,6] (fun vi vk wr=>∃(k:Nat) (i:Bool),k≤s.size∧vk=.int .i64 (k:Int)∧vi=.bool i∧wr=w∧Hid (qG s.data.toList k i=T)) (fun _ vk _=>s.size - (intOf vk).toNat)
 case atStart=>exact⟨0,false,Nat.zero_le _,rfl,rfl,rfl,B⟩
 case round=>
  obtain⟨k,i,N,rfl,rfl,x,m⟩:=hrel;subst x;by_cases hlt:k<s.size
  ·obtain ⟨c,O⟩:∃c,s[k]=c:=⟨_,rfl⟩;have d:k<s.data.toList.length:=by rw[dl];exact hlt
   have a:s.data.toList[k]=c:=O;by_cases h91:c=91
   ·have H:((c.toNat:Int)==91)=true:=xq c 91 h91;have l:Hid (qG s.data.toList (k+1) true=T):=by
     show _=_;rw[←m.out,zI _ k i d (by rw[a,h91];simp),a,if_pos h91]
    clear d a h91;go_wp2;go_roundw
    case rel=>exact⟨k+1,true,by omega,by go_num,rfl,by first|rfl|trivial,l⟩
    case measure=>simp[intOf];omega
   have H:((c.toNat:Int)==91)=false:=um c 91 h91;by_cases h93:c=93
   ·have G:((c.toNat:Int)==93)=true:=xq c 93 h93;have l:Hid (qG s.data.toList (k+1) false=T):=by
     show _=_;rw[←m.out,zI _ k i d (by rw[a,h93];simp),a,if_neg h91,if_pos h93]
    clear d a h91 h93;go_wp2;go_roundw
    case rel=>exact⟨k+1,false,by omega,by go_num,rfl,by first|rfl|trivial,l⟩
    case measure=>simp[intOf];omega
   have G:((c.toNat:Int)==93)=false:=um c 93 h93;by_cases h58:c=58
   ·have q3 : ((c.toNat : Int) == 58) = true := xq c 58 h58;cases i with
    | false=>
     have E:Hid (T=(s.data.toList.take k,s.data.toList.drop (k+1),true)):=by
      show _=_;rw[←m.out,OD _ k d (by rw[a,h58])]
     obtain⟨P,j⟩:∃P,P=ah (s.data.toList.take k):=⟨_,rfl⟩;obtain⟨Q,g⟩:∃P,P=ah (s.data.toList.drop (k+1)):=⟨_,rfl⟩;have A:s.extract 0 k=P:=by rw[j];exact F7 s k
     have V:s.extract (k+1) s.size=Q:=by rw[g];exact kY s (k+1)
     have D:=hid j;have C:=hid g;clear j g;have J:(k:Int)+1≤(s.size:Int):=by omega
     have I:(k:Int)≤(s.size:Int):=by omega
     have L:k≤s.size:=N;have y:((k:Int)+1).toNat=k+1:=by omega
     clear d a h91 h93 h58;go_upto_region 10 with(fail)
     refine dG (by kernel_rfl) [is (.string s),is (.int .i64 (k:Int)),is (.string P),is (.string s),is (.int .i64 (k:Int)),is (.int .i64 ((k:Int)+1)),is (.string Q),is (.string P),is (.string Q),is (.bool true)] [[],[],[0,1],[],[],[4],[3,5],[2],[6],[]] (by kernel_rfl) ?_ ?_
     ·refine ⟨?_,?_,?_,?_,?_,?_,?_,?_,?_,?_,trivial⟩;all_goals(intro t F n hh K f;simp only[iQ,Act.put,Nat.reduceAdd,Nat.reduceEqDiff,reduceIte]at hh f⊢)
      iterate 2
       ·try simp only[hh]at f⊢
        clear hh;go_simp;exact f _ _ aZ rfl
      ·have A:=hh.2.1;simp only[hh,A]at f⊢;clear hh;have hx:=A;go_simp;exact f _ _ aZ rfl
      iterate 2
       ·try simp only[hh]at f⊢
        clear hh;go_simp;exact f _ _ aZ rfl
      ·try simp only[hh]at f⊢
       clear hh;go_simp;first|exact f _ _ aZ rfl|exact f _ _ aZ (jL (by omega) (by omega))
      ·try simp only[hh]at f⊢
       clear hh;have hx:=V;have y:((k:Int)+1).toNat=k+1:=by omega
       go_simp;exact f _ _ aZ rfl
      iterate 3
       ·try simp only[hh]at f⊢
        clear hh;go_simp;exact f _ _ aZ rfl
     intro t F n hh;have v:=aO hh 7 (by decide);simp only[pick]at v;replace v:t 7=(.string P):=v;have r:=aO hh 8 (by decide);simp only[pick]at r;replace r:t 8=(.string Q):=r;have q:=aO hh 9 (by decide);simp only[pick]at q;replace q:t 9=(.bool true):=q;clear hh;simp only[iQ,Act.put,Nat.reduceAdd,Nat.reduceEqDiff,reduceIte];simp only[v,r,q];go_wp2
     go_ret3
     exact⟨by rw[E.out,←D.out,←C.out];rfl,n⟩
    |true=>
     have l:Hid (qG s.data.toList (k+1) true=T):=by
      show _=_;rw[←m.out,zI _ k true d (by simp),a,if_neg h91,if_neg h93]
     clear d a h91 h93 h58;go_wp2;go_roundw
     case rel=>exact⟨k+1,true,by omega,by go_num,rfl,by first|rfl|trivial,l⟩
     case measure=>simp[intOf];omega
   have q3:((c.toNat:Int)==58)=false:=um c 58 h58;have l:Hid (qG s.data.toList (k+1) i=T):=by
    show _=_;rw[←m.out,zI _ k i d (fun h=>h58 (a▸h.1)),a,if_neg h91,if_neg h93]
   clear d a h91 h93 h58;go_wp2;go_roundw
   case rel=>exact⟨k+1,i,by omega,by go_num,rfl,by first|rfl|trivial,l⟩
   case measure=>simp[intOf];omega
  obtain rfl:k=s.size:=by omega
  have E:Hid (T=(s.data.toList,[],false)):=by
   show _=_;rw[←m.out,←dl,Td]
  go_wp2
  go_ret3
  exact⟨by rw[E.out,bF];rfl,Below.refl _ _⟩
theorem Xh (sc d:ByteArray) (w:World) (Z:d.size≤1073741824):Calls prog 98 #[.string sc,.string d] w fun e w'=>abS (prt sc.data.toList d.data.toList) e∧w'=w:=by
 obtain⟨o,t⟩:∃o,o=prt sc.data.toList d.data.toList:=⟨_,rfl⟩;rw[←t];have A:=hid t;by_cases h0:d.data.toList=[]
 ·have Q:(d.toList==[])=true:=by rw[Lib.toList_data,h0];rfl
  have P:d.toList=[]:=by rw[Lib.toList_data,h0]
  have l:Hid (o=some (-1)):=by show _=_;rw[A.out,h0];rfl
  clear t h0;go_enter func98,ntmps98;go_wp2;go_ret2;exact⟨by rw[l.out];rfl,rfl⟩
 have Q:(d.toList==[])=false:=by rw[Lib.toList_data,beq_eq_false_iff_ne];exact h0
 have P:¬d.toList=[]:=by rw[Lib.toList_data];exact h0
 have Y:d.toList.isEmpty=false:=by rw[Lib.toList_data];simpa using h0
 have X:Hid (d.data.toList≠[]):=h0;have h:=fun w=>CU sc w;obtain⟨D,y⟩:∃D,D=iE sc.data.toList:=⟨_,rfl⟩;rw[←y]at h;have E:=hid h;have C:=hid y;clear t h0 h y;go_enter func98,ntmps98;go_wp2;go_loopw [6,7] (fun vn vk wr=>∃(k n:Nat),k≤d.size∧vk=.int .i64 (k:Int)∧vn=.int .i64 (n:Int)∧n≤65536∧wr=w∧Hid (n=jX (d.data.toList.take k))∧Hid ((d.data.toList.take k).all jW=true)) (fun _ vk _=>d.size - (intOf vk).toNat)
 case atStart=>exact⟨0,0,Nat.zero_le _,rfl,rfl,by omega,rfl,rfl,rfl⟩
 case round=>
  obtain⟨k,n,hk,rfl,rfl,hn,v,J,L⟩:=hrel;subst v;by_cases hlt:k<d.size
  ·obtain⟨c,W⟩:∃c,d[k]=c:=⟨_,rfl⟩;have g:k<d.data.toList.length:=by rw[dl];exact hlt
   have i:d.data.toList[k]=c:=W;have f:=fun w=>iJ (c.toNat:Int) w;cases hd:digit (c.toNat:Int)with
   |false=>
    have l:Hid (o=none):=by show _=_;rw[A.out];exact Z4 _ _ k g (by rw[i];exact hd)
    rw[hd]at f;have q:=hid f;clear g i hd f;go_wp2_with fail
    refine(q _).mono ?_;rintro e s ⟨rfl,a⟩;subst a;go_wp2;go_ret2;exact⟨by rw[l.out];exact⟨_,rfl⟩,rfl⟩
   |true=>
    rw[hd]at f;have q:=hid f;obtain⟨O,N⟩:=Qq c hd;obtain⟨m,G⟩:∃m,m=min (n*10+(c.toNat - 48)) 65536:=⟨_,rfl⟩;have B:Hid (m=jX (d.data.toList.take (k+1))):=by show _=_;rw[wL _ k g,i,←J.out,G]
    have F:Hid ((d.data.toList.take (k+1)).all jW=true):=by show _=_;rw[GL _ k g,L.out,i];exact hd
    have r:min ((n:Int)*10+((c.toNat:Int) - 48)) 65536=(m:Int):=by omega
    have x:m≤65536:=by omega
    have V:48≤(c.toNat:Int):=by omega
    have T:(c.toNat:Int)≤57:=by omega
    clear g i hd f G O N;go_wp2_with fail
    refine(q _).mono ?_;rintro e s ⟨rfl,a⟩;subst a;go_wp2;go_roundw
    case rel=>exact⟨k+1,m,by omega,by go_num,by first|rfl|(rw[←r];congr 1;omega)|(simp only[←r];first|rfl|(congr 1;split<;>omega)),x,by first|rfl|trivial,B,F⟩
    case measure=>simp[intOf];omega
  obtain rfl:k=d.size:=by omega
  have l:Hid (o=if (n:Int)=D then some (-1)else if n≤65535 then some (n:Int)else none):=by
   show _=_;have I:=J.out;have H:=L.out;rw[List.take_of_length_le (by rw[dl];exact Nat.le_refl _)]at I H;rw[A.out,MO _ _ X.out H,←I,←C.out]
  by_cases hd:(n:Int)=D
  ·have j:Hid (o=some (-1)):=by show _=_;rw[l.out,if_pos hd]
   have q3:((n:Int)==D)=true:=by rw[beq_iff_eq];exact hd
   clear hd;go_wp2_with fail
   refine(E _).mono ?_;rintro e s ⟨rfl,a⟩;subst a;go_wp2;go_ret2;exact⟨by rw[j.out];rfl,rfl⟩
  have q3:((n:Int)==D)=false:=by rw[beq_eq_false_iff_ne];exact hd
  by_cases h6:n≤65535
  ·have j:Hid (o=some (n:Int)):=by show _=_;rw[l.out,if_neg hd,if_pos h6]
   have z:(n:Int)≤65535:=by omega
   clear hd;go_wp2_with fail
   refine(E _).mono ?_;rintro e s ⟨rfl,a⟩;subst a;go_wp2;go_ret2;exact⟨by rw[j.out];rfl,rfl⟩
  have j:Hid (o=none):=by show _=_;rw[l.out,if_neg hd,if_neg h6]
  have z:¬(n:Int)≤65535:=by omega
  clear hd;go_wp2_with fail
  refine(E _).mono ?_;rintro e s ⟨rfl,a⟩;subst a;go_wp2;go_ret2;exact⟨by rw[j.out];exact⟨(n:Int),congrArg (fun b=>Ending.returned (.tuple #[.int .i64 (n:Int),.bool b])) (decide_eq_false (by omega))⟩,rfl⟩
theorem Jy (s:ByteArray) (w:World) (hs:s.size≤1073741824):Calls prog 23 #[.string s] w fun e w'=>e=.returned (.bool (iY s.data.toList))∧w'=w:=by
 obtain⟨V,Q⟩:∃V,V=iY s.data.toList:=⟨_,rfl⟩;rw[←Q];have HV:=hid Q;clear Q;have C:=ix3;go_enter func23,ntmps23;go_wp2;go_loopw [3] (fun vk wr=>∃k:Nat,k≤s.size∧vk=.int .i64 (k:Int)∧wr=w∧Hid (∀j,j<k→mF s.data.toList j=true)) (fun vk _=>s.size - (intOf vk).toNat)
 case atStart=>exact⟨0,Nat.zero_le _,rfl,rfl,fun j h=>by omega⟩
 case round=>
  obtain⟨k,hk,rfl,L,Z⟩:=hrel;subst L;by_cases hlt:k<s.size
  ·obtain ⟨c,hc⟩:∃c,s[k]=c:=⟨_,rfl⟩;have r:k<s.data.toList.length:=by rw[dl];exact hlt
   have D:s.data.toList[k]=c:=hc;have q:mF s.data.toList k=(letter (c.toNat:Int)||(decide (k≠0)&&nH c)):=by rw[XG _ k r,D]
   have B:=V6 s.data.toList k r;have d:=fun w=>iq (c.toNat:Int) w;have f:=fun w=>iJ (c.toNat:Int) w;have n:=fun w=>strings_IndexByte ⟨#[43,45,46]⟩ (c.toNat:Int) w;have X:((c.toNat:Int)).toNat.toUInt8=c:=by simp
   rw[X,show(⟨#[43,45,46]⟩:ByteArray).data.toList=[43,45,46]from rfl]at n;have t:=C c;obtain⟨z,W⟩:∃z,z=Lib.indexByte [43,45,46] c:=⟨_,rfl⟩;rw[←W]at n t;have v:Hid (mF s.data.toList k=true→∀j,j<k+1→mF s.data.toList j=true):=by
    intro h j O;by_cases hjk:j<k
    ·exact Z j hjk
    obtain rfl:j=k:=by omega
    exact h
   obtain⟨l,N⟩:∃l,l=letter (c.toNat:Int):=⟨_,rfl⟩;obtain⟨g,P⟩:∃l,l=digit (c.toNat:Int):=⟨_,rfl⟩;have A:nH c=(l||(g||decide (0≤z))):=by unfold nH;rw[t,N,P]
   rw[←N]at d q;rw[←P]at f;rw[A]at q;have G:=hid d;have T:=hid f;have Y:=hid n;have y:=hid q;have E:=hid B;clear r D d f n X t W N P A q B;cases l with
   |true=>
    have F:Hid (∀j,j<k+1→mF s.data.toList j=true):=v (by rw[y.out];rfl);go_wp2_with fail
    refine(G _).mono ?_;rintro e m ⟨rfl,a⟩;subst a;go_wp2;go_roundw
    case rel=>exact⟨k+1,by omega,by go_num,by first|rfl|trivial,F⟩
    case measure=>simp[intOf];omega
   | false=>
    by_cases hk0:k=0
    ·have x:Hid (V=false):=by show _=_;rw[HV.out];exact E (by rw[y.out,hk0];rfl)
     have I:((k:Int)==0)=true:=by rw[hk0];rfl
     clear hk0;go_wp2_with fail
     refine(G _).mono ?_;rintro e m ⟨rfl,a⟩;subst a;go_wp2;go_ret;exact⟨aH (by rw[x.out]),rfl⟩
    have I:((k:Int)==0)=false:=by rw[beq_eq_false_iff_ne];omega
    have i:Hid (mF s.data.toList k=(g||decide (0≤z))):=by show _=_;rw[y.out,decide_eq_true hk0];rfl
    clear hk0;cases g with
    |true=>
     have F:Hid (∀j,j<k+1→mF s.data.toList j=true):=v (by rw[i.out];rfl);go_wp2_with fail
     refine(G _).mono ?_;rintro e m ⟨rfl,a⟩;subst a;go_wp2_with fail
     refine(T _).mono ?_;rintro e m ⟨rfl,a⟩;subst a;go_wp2;go_roundw
     case rel=>exact⟨k+1,by omega,by go_num,by first|rfl|trivial,F⟩
     case measure=>simp[intOf];omega
    |false=>
     by_cases hz0:0≤z
     ·have F:Hid (∀j,j<k+1→mF s.data.toList j=true):=v (by rw[i.out,decide_eq_true hz0];rfl);have J:¬z<0:=by omega
      go_wp2_with fail
      refine(G _).mono ?_;rintro e m ⟨rfl,a⟩;subst a;go_wp2_with fail
      refine(T _).mono ?_;rintro e m ⟨rfl,a⟩;subst a;go_wp2_with fail
      refine(Y _).mono ?_;rintro e m ⟨rfl,a⟩;subst a;go_wp2;go_roundw
      case rel=>exact⟨k+1,by omega,by go_num,by first|rfl|trivial,F⟩
      case measure=>simp[intOf];omega
     have x:Hid (V=false):=by show _=_;rw[HV.out];exact E (by rw[i.out,decide_eq_false hz0];rfl)
     have J:z<0:=by omega
     go_wp2_with fail
     refine(G _).mono ?_;rintro e m ⟨rfl,a⟩;subst a;go_wp2_with fail
     refine(T _).mono ?_;rintro e m ⟨rfl,a⟩;subst a;go_wp2_with fail
     refine(Y _).mono ?_;rintro e m ⟨rfl,a⟩;subst a;go_wp2;go_ret;exact⟨aH (by rw[x.out]),rfl⟩
  obtain rfl:k=s.size:=by omega
  have H:V=decide (s.data.toList≠[]):=by rw[HV.out];exact Tv _ fun j O=>Z j (by rw[dl]at O;exact O)
  by_cases h0:s.data.toList=[]
  ·have x:Hid (V=false):=by show _=_;rw[H];exact decide_eq_false (fun h=>h h0)
   have I:(s.toList==[])=true:=by rw[Lib.toList_data,h0];rfl
   have q1:s.toList=[]:=by rw[Lib.toList_data,h0]
   clear H h0;go_wp2;go_ret;exact⟨aH (by rw[x.out]),rfl⟩
  have x:Hid (V=true):=by show _=_;rw[H];exact decide_eq_true h0
  have I:(s.toList==[])=false:=by rw[Lib.toList_data,beq_eq_false_iff_ne];exact h0
  have q1:¬s.toList=[]:=by rw[Lib.toList_data];exact h0
  have q2:s.toList.isEmpty=false:=by rw[Lib.toList_data];simpa using h0
  clear H h0;go_wp2;go_ret;exact⟨aH (by rw[x.out]),rfl⟩
where
 ix3 (c:UInt8):(decide (c=43)||(decide (c=45)||decide (c=46)))=decide (0≤Lib.indexByte [43,45,46] c):=by
  have H:∀n:Fin 256,(decide (UInt8.ofNat n.val=43)||(decide (UInt8.ofNat n.val=45)||decide (UInt8.ofNat n.val=46)))=decide (0≤Lib.indexByte [43,45,46] (UInt8.ofNat n.val)):=by decide+kernel
  have:=H ⟨c.toNat,c.toNat_lt⟩;simpa using this
end xR
