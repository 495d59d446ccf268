/- Lemmas. -/
import Derived.Test.YtmbpmbapelfobaaGreatDoorChecked
import Derived.WalkKit
import Derived.WalkSpells
import Derived.WalkLawsBesides
import Derived.Outline
import Derived.Laws.IdiomStrings
import Derived.Deep.Draws
import Derived.Deep.AppendLies
import Derived.Deep.RegionHeld3
import Derived.Deep.DrawnRows
import Derived.Lib.SplitLaws
import Derived.Lib.LastIndexByte
set_option linter.unusedSimpArgs false
set_option linter.unusedVariables false
set_option maxRecDepth 100000
set_option maxHeartbeats 64000000
namespace Go.Proofs.YtmbpmbapelfobaaGreatDoor
open Tryz
namespace Base
open Go.RowKit
theorem aH {a b:Bool} (h:a=b):Ending.returned (.bool a)=.returned (.bool b):=by rw[h]
theorem Ro {k:IntKind} {a b:Int} (h:a=b):Ending.returned (.int k a)=.returned (.int k b):=by rw[h]
theorem int_eq {k:IntKind} {a b:Int} (h:a=b):Value.int k a=.int k b:=by rw[h]
theorem kT {a b:Bool} (h:a=b):Value.bool a=.bool b:=by rw[h]
theorem Aj {a b d c:Value} (f:a=d) (e:b=c):Ending.returned (.tuple #[a,b])=.returned (.tuple #[d,c]):=by rw[f,e]
theorem afR {a b c f e d:Value} (i:a=f) (h:b=e) (g:c=d):Ending.returned (.tuple #[a,b,c])=.returned (.tuple #[f,e,d]):=by rw[i,h,g]
theorem Bf (g j:Nat):(⟨g,0,none⟩:Addr).add j=⟨g,j,none⟩:=by unfold Addr.add;split<;>simp_all
theorem below_drewN {B:Nat} {a w:World} (h:Below B a w) (n:Nat):Below B a (w.drewN n):=⟨h.os,h.tape,h.output,h.size,h.block⟩
theorem Qc (c:UInt8):bits .and .u8 (c.toNat:Int) 15=(c.toNat:Int)%16:=by
 have H:∀n:Fin 256,bits .and .u8 (n.val:Int) 15=(n.val:Int)%16:=by decide+kernel
 exact H ⟨c.toNat,c.toNat_lt⟩
theorem hid {p:Prop} (h:p):Hid p:=h
def ah (l:List UInt8):ByteArray:=⟨l.toArray⟩
theorem bF (s:ByteArray):ah s.data.toList=s:=by cases s;rfl
theorem ak (l:List UInt8):(ah l).size=l.length:=by simp[ah,ByteArray.size]
def mQ (w:World) (g:Nat) (t:TypeId) (L:List UInt8):Prop:=
 ∃C m,w.heap[g]?=some (.cells C t (m,m+1))∧L.length≤m∧m≤C.size∧∀j (h:j<L.length),C[j]?=some (.int .u8 (L[j].toNat:Int))
theorem mQ.cell {w:World} {g:Nat} {t:TypeId} {L:List UInt8} (h:mQ w g t L) (j:Nat) (a:j<L.length):w.cell? ⟨g,j,none⟩=some (.int .u8 (L[j].toNat:Int)):=by
 obtain⟨C,m,hh,d,e,c⟩:=h;unfold World.cell?;rw[hh];simpa using c j a
theorem mQ.frozen {w:World} {g:Nat} {t:TypeId} {L:List UInt8} (h:mQ w g t L) (j:Nat) (c:j<L.length):w.frozen? ⟨g,j,none⟩=false:=by
 obtain⟨C,m,hh,a,e,d⟩:=h;unfold World.frozen?;rw[hh];simp;omega
theorem mQ.set {w:World} {g:Nat} {t:TypeId} {L:List UInt8} (h:mQ w g t L) (j:Nat) (c:UInt8):mQ (w.setCell ⟨g,j,none⟩ (.int .u8 (c.toNat:Int))) g t (L.set j c):=by
 obtain⟨C,m,hh,d,k,f⟩:=h;refine⟨C.setIfInBounds j (.int .u8 (c.toNat:Int)),m,?_,by simpa using d,by simpa using k,fun i hi=>?_⟩
 ·simp[World.setCell,Array.getElem?_modify,hh]
 have a:i<L.length:=by simpa using hi
 by_cases e:j=i
 ·subst e;rw[Array.getElem?_setIfInBounds_self_of_lt (by omega)];simp
 rw[Array.getElem?_setIfInBounds_ne e,f i a];simp[List.getElem_set,e]
theorem mQ.made (w:World) (s:ByteArray) (t:TypeId) (n:Nat) (c:s.size≤n):mQ (w.alloc (.cells (bytesRow s n) t ((bytesRow s n).size,(bytesRow s n).size+1))) w.heap.size t s.data.toList:=by
 have a:s.data.size=s.size:=rfl;refine⟨bytesRow s n,(bytesRow s n).size,heap_alloc_new w _,?_,Nat.le_refl _,fun j hj=>?_⟩
 ·simp[bytesRow]
 rw[bytesRow_at s n j (by simpa using hj)];simp
def dW (w:World) (A:Option Addr) (n:Nat) (xs:List Value):Prop:=
 xs.length=n∧∀j (h:j<xs.length),∃b off,A=some ⟨b,off,none⟩∧b<w.heap.size∧w.cell? ⟨b,off+j,none⟩=some xs[j]
def aU (L:List UInt8):List Value:=L.map fun c=>.int .u8 (c.toNat:Int)
def jv (k:IntKind) (l:List Int):List Value:=l.map (Value.int k)
theorem bM (L:List UInt8):(aU L).length=L.length:=by simp[aU]
theorem lH (k:IntKind) (l:List Int):(jv k l).length=l.length:=by simp[jv]
theorem eG (a b:List UInt8):aU (a++b)=aU a++aU b:=by simp[aU]
theorem oH (a:List UInt8) (k:Nat):aU (a.drop k)=(aU a).drop k:=by simp[aU]
theorem vP (a:List UInt8) (k:Nat):aU (a.take k)=(aU a).take k:=by simp[aU]
theorem gJ (k:IntKind) (a b:List Int):jv k (a++b)=jv k a++jv k b:=by simp[jv]
theorem Oe (L:List UInt8):∀u ∈ aU L,u.oneCell'=true:=by
 intro u a;simp only[aU,List.mem_map]at a;obtain⟨c,_,rfl⟩:=a;rfl
theorem rD:(prog.info? 5).map (fun i=>(i.zero,i.size,i.bytes))=some (some (.int .u8 0),1,1):=by kernel_rfl
section
variable {w w':World} {A:Option Addr} {n:Nat} {xs:List Value}
theorem dW.nil (A:Option Addr):dW w A 0 []:=⟨rfl,fun j h=>absurd h (by simp)⟩
theorem dW.spot (h:dW w A n xs) (c:0<n):∃b off,A=some ⟨b,off,none⟩∧b<w.heap.size∧∀j (h:j<xs.length),w.cell? ⟨b,off+j,none⟩=some xs[j]:=by
 obtain⟨b,off,rfl,f,_⟩:=h.2 0 (by rw[h.1];exact c);refine⟨b,off,rfl,f,fun j hj=>?_⟩;obtain⟨g,a,e,_,d⟩:=h.2 j hj;injection e with e
 injection e with e1 e2
 subst e1 e2;exact d
theorem dW.lT {b off:Nat} (a:xs.length=n) (c:b<w.heap.size) (h:∀j (h:j<xs.length),w.cell? ⟨b,off+j,none⟩=some xs[j]):dW w (some ⟨b,off,none⟩) n xs:=
 ⟨a,fun j hj=>⟨b,off,rfl,c,h j hj⟩⟩
theorem dW.below (h:dW w A n xs) (c:Below w.heap.size w w'):dW w' A n xs:=
 ⟨h.1,fun j hj=>by
  obtain⟨b,off,rfl,a,d⟩:=h.2 j hj
  exact⟨b,off,rfl,Nat.lt_of_lt_of_le a c.size,(c.cell (p:=⟨b,off+j,none⟩) a).trans d⟩⟩
theorem dW.cut {b off:Nat} (h:dW w (some ⟨b,off,none⟩) n xs) (k:Nat) (g:k≤n):dW w (some ⟨b,off+k,none⟩) (n - k) (xs.drop k):=
 ⟨by rw[List.length_drop,h.1],fun j hj=>by
  have c:k+j<xs.length:=by rw[List.length_drop]at hj;omega
  obtain⟨i,d,e,a,f⟩:=h.2 (k+j) c
  injection e with e
  injection e with e1 e2
  subst e1 e2
  refine⟨b,off+k,rfl,a,?_⟩
  rw[Nat.add_assoc,f,List.getElem_drop]⟩
theorem dW.upto {b off:Nat} (h:dW w (some ⟨b,off,none⟩) n xs) (k:Nat) (i:k≤n):dW w (some ⟨b,off,none⟩) k (xs.take k):=
 ⟨by rw[List.length_take,h.1];omega,fun j hj=>by
  have d:j<xs.length:=by rw[List.length_take]at hj;omega
  obtain⟨g,a,e,c,f⟩:=h.2 j d
  refine⟨g,a,e,c,?_⟩
  rw[f,List.getElem_take]⟩
theorem dW.byte {L:List UInt8} {b off:Nat} (h:dW w (some ⟨b,off,none⟩) n (aU L)) (j:Nat) (c:j<L.length):w.cell? ⟨b,off+j,none⟩=some (.int .u8 (L[j].toNat:Int)):=by
 obtain⟨f,a,e,_,d⟩:=h.2 j (by rw[bM];exact c);injection e with e
 injection e with e1 e2
 subst e1 e2;rw[d];simp[aU]
theorem dW.int {k:IntKind} {l:List Int} {b off:Nat} (h:dW w (some ⟨b,off,none⟩) n (jv k l)) (j:Nat) (c:j<l.length):w.cell? ⟨b,off+j,none⟩=some (.int k l[j]):=by
 obtain⟨f,a,e,_,d⟩:=h.2 j (by rw[lH];exact c);injection e with e
 injection e with e1 e2
 subst e1 e2;rw[d];simp[jv]
theorem aW {base:Nat} {e:TypeId} {v:Value} (h:w.ownsRow base e 1 v n xs):∃A c,v=.slice A n c∧n≤c∧c≤maxLen∧dW w A n xs:=by
 obtain⟨d,h⟩:=h;rw[Nat.mul_one]at d;rcases h with⟨rfl,rfl⟩|⟨g,f,a,rfl,q,hh,l,k,m,i⟩
 ·exact⟨none,0,rfl,Nat.le_refl _,Nat.zero_le _,d,fun j hj=>absurd hj (by omega)⟩
 refine⟨some ⟨g,0,none⟩,f,rfl,l,k,dW.lT d (Array.getElem?_eq_some_iff.1 hh).1 fun j hj=>?_⟩;rw[Nat.zero_add,cell_of_row w g j a e (0,0) hh];simp only[Nat.mul_one]at i;have:(a.toList.take n)[j]?=some xs[j]:=by rw[i];exact List.getElem?_eq_getElem hj
 rw[List.getElem?_take,if_pos (by omega)]at this;simpa using this
theorem aY {base:Nat} {e:TypeId} {size:Nat} {v:Value} (h:w.ownsRow base e size v n xs) (a:Below w.heap.size w w'):w'.ownsRow base e size v n xs:=by
 refine⟨h.1,?_⟩;rcases h.2 with hn|⟨g,cap,cur,rfl,hg,hh,rest⟩
 ·exact .inl hn
 exact .inr ⟨g,cap,cur,rfl,hg,(a.block g (Array.getElem?_eq_some_iff.1 hh).1).trans hh,rest⟩
theorem aI {base a:Nat} {e:TypeId} {size:Nat} {v:Value} (h:w.ownsRow base e size v n xs) (c:a≤base):w.ownsRow a e size v n xs:=by
 refine⟨h.1,?_⟩;rcases h.2 with hn|⟨g,cap,cur,rfl,hg,rest⟩
 ·exact .inl hn
 exact .inr ⟨g,cap,cur,rfl,Nat.le_trans c hg,rest⟩
theorem bI {P:Program} (d f e:TypeId) (i:P.underlying d=some (.slice e)) (l:P.underlying e=some (.int .u8)) (m:P.underlying f=some .string) (L:List UInt8) (c:Nat) (h:dW w A n (aU L)):
  (convert d f (.slice A n c)).run P w=.ok (.string (ah L)) w:=by
 have k:L.length=n:=by rw[←bM];exact h.1
 cases A with
 | none=>
  have g:n=0:=by
   rcases Nat.eq_zero_or_pos n with g|g
   ·exact g
   ·obtain⟨_,_,e,_⟩:=h.spot g;cases e
  subst g;obtain rfl:L=[]:=List.eq_nil_of_length_eq_zero k;rw[run_convert_bytes_string w d f e none 0 c i l m];rfl
 | some a=>
  subst k;exact run_convert_bytes_back w d f e a c L i l m (fun j hj=>by
   obtain⟨b,off,e,_,q⟩:=h.2 j (by rw[bM];exact hj);injection e with e
   subst e;have r:(⟨b,off,none⟩:Addr).add j=⟨b,off+j,none⟩:=by
    unfold Addr.add;split<;>simp_all
   rw[r,q];simp[aU])
end
section
variable {P:Program} {W w0:World} {ops:Array Oper} {rest:List Oper} {o:Oper} {a:Act} {Q:Exit→Act→World→Prop}
theorem bJ (y:o.guard=none) (s x:Operand) (t:TypeId) (G:o.op=.call {callee:=.builtin .append,args:=#[s,x],argTypes:=#[t,t]})
  (B:Nat) (e:TypeId) (i:TypeInfo) (z:Value) (l:Nat) (E:P.underlying t=some (.slice e)) (hi:P.info? e=some i) (D:i.zero=some z) (k:i.size=1) (A:i.bytes=l) (w:z.cells.size=1)
  (v:Value) (n:Nat) (r:List Value) (F:a.eval s=v) (f:W.ownsRow B e 1 v n r) (q:Below B w0 W) (H:B≤W.heap.size)
  (c:List Value) (m:Nat) (J:c.length=m) (hx:a.eval x=.slice (some ⟨W.heap.size,0,none⟩) m m) (I:∀u ∈ c,u.oneCell'=true)
  (C:n+m≤maxLen) (d:(n+m)*l≤140737488355328)
  (h:∀v' w',w'.ownsRow B e 1 v' (n+m) (r++c)→Below B w0 w'→wpList P ops Q rest (a.put o.dst v') w'):
  wpList P ops Q (o::rest) a (W.alloc (.cells c.toArray e)):=by
 refine wpList_append_own _ y s x t G B e i z 1 l E hi D k A w (by decide) v n r F (f.alloc _) ⟨W.heap.size,0,none⟩ m m c hx (by omega) (fun j u hj=>?_) I C d (by simp;omega) (fun v' w' h2 h3 _=>h v' w' h2 ?_)
 ·rw[Bf,World.cell?_alloc_mark];simpa using hj
 ·exact(q.alloc H _).grown h3 (by simp;omega) (fun g hg=>(f.lt g hg).1)
theorem ND {K:Act→World→Prop} {E:Prop} (I:o.guard=none) (s x:Operand) (t:TypeId) (V:o.op=.call {callee:=.builtin .append,args:=#[s,x],argTypes:=#[t,t]})
  (B:Nat) (e:TypeId) (i:TypeInfo) (z:Value) (A:Nat) (O:P.underlying t=some (.slice e)) (hi:P.info? e=some i) (N:i.zero=some z) (r:i.size=1) (J:i.bytes=A) (F:z.cells.size=1)
  (v:Value) (n:Nat) (D:List Value) (T:a.eval s=v) (l:W.ownsRow B e 1 v n D) (C:Below B w0 W) (X:B≤W.heap.size)
  (c:List Value) (m:Nat) (Z:c.length=m) (G:0<m) (hx:a.eval x=.slice (some ⟨W.heap.size,0,none⟩) m m) (Y:∀u ∈ c,u.oneCell'=true)
  (L:n+m≤maxLen) (f:(n+m)*A≤140737488355328) {q:World} (d:Below B (W.alloc (.cells c.toArray e)) q∧(∀b:Nat,q.heap[b]?=(W.alloc (.cells c.toArray e)).heap[b]?)∧q.heap.size=W.heap.size+1)
  (h:∀v' w',w'.ownsRow B e 1 v' (n+m) (D++c)→Below B w0 w'→K (a.put o.dst v') w'):
  if Region.wanted o (yielded ops a.tmps)=true then Oper.wp P o a q K Q else E:=by
 have H:Below (W.alloc (.cells c.toArray e)).heap.size (W.alloc (.cells c.toArray e)) q:=⟨d.1.os,d.1.tape,d.1.output,d.1.size,fun k _=>d.2.1 k⟩;have y:q.ownsRow B e 1 v n D:=aY (l.alloc _) H;refine step_append_lies (w:=q) I s x t V B e i z 1 A O hi N r J F (by decide) v n D T y ⟨W.heap.size,0,none⟩ m m c hx (by omega) (fun j u hj=>?_) Y G L f (by omega) _ rfl (fun g cap w' h2 h3 _ _=>h _ w' h2 ?_)
 ·rw[Bf,World.cell?_of_block (w:=W.alloc (.cells c.toArray e)) (d.2.1 _),World.cell?_alloc_mark];simpa using hj
 ·exact((C.alloc X _).trans d.1).grown h3 (by omega) (fun g hg=>(l.lt g hg).1)
end
theorem aZ {B:Nat} {w:World}:Below B w w:=Below.refl _ _
theorem eU {P:Program} {c:Func} {R:Ending→World→Prop} {a:Act} {w:World} (hf:c.results=#[]) (d:a.defers=[]) (e:R (.returned (.tuple #[])) w):bodyPost P c R .ret a w:=bodyPost_ret (results_none hf _ _ _) d e
end Base
namespace dw
open Go.RowKit Base
def letter (c:Int):Bool:=decide (65≤c∧c≤90∨97≤c∧c≤122)
def digit (c:Int):Bool:=decide (48≤c∧c≤57)
def hex (c:Int):Int:=if 48≤c∧c≤57 then c - 48 else if 97≤c∧c≤102 then c - 87 else if 65≤c∧c≤70 then c - 55 else -1
theorem iq (c:Int) (w:World):Calls prog 70 #[.int .u8 c] w fun e w'=>e=.returned (.bool (letter c))∧w=w':=by
 go_enter func70,ntmps70;go_wp2;all_goals
  go_ret;exact⟨aH (by unfold letter;rw[Bool.eq_iff_iff];simp;omega),rfl⟩
theorem iJ (c:Int) (w:World):Calls prog 71 #[.int .u8 c] w fun e w'=>e=.returned (.bool (digit c))∧w=w':=by
 go_enter func71,ntmps71;go_wp2;all_goals
  go_ret;exact⟨aH (by unfold digit;rw[Bool.eq_iff_iff];simp;omega),rfl⟩
theorem jm (c:Int) (w:World) (d:0≤c) (a:c≤255):Calls prog 194 #[.int .u8 c] w fun e w'=>e=.returned (.int .i64 (hex c))∧w=w':=by
 go_enter func194,ntmps194;go_wp2;all_goals
  go_ret;exact⟨Ro (by unfold hex;(repeat' split)<;>omega),rfl⟩
end dw
namespace lX
open Go.RowKit dw
theorem wo (c:UInt8): -1≤hex c.toNat∧hex c.toNat≤15:=by
 have H:∀n:Fin 256,-1≤hex (n.val:Int)∧hex (n.val:Int)≤15:=by decide+kernel
 exact H ⟨c.toNat,c.toNat_lt⟩
def mP (b:Nat) (c:UInt8):Bool:=decide (0≤hex c.toNat)&&decide (hex c.toNat<b)
def fV (b:Nat) (L:List UInt8):Bool:=L.all (mP b)
def dv (c:UInt8):Nat:=(hex c.toNat).toNat
def val (b:Nat) (L:List UInt8):Nat:=L.foldl (fun n c=>n*b+dv c) 0
theorem lM (b:Nat) (L:List UInt8) (c:UInt8):val b (L++[c])=val b L*b+dv c:=by simp[val]
def yT:List UInt8→Nat×List UInt8
 |[]=>(10,[])
 |[a]=>(10,[a])
 |a::x::r=>if a=48 then(if x=120∨x=88 then(16,r)else(8,x::r))else(10,a::x::r)
def num (L:List UInt8):Option Nat:=if L=[]then none else if fV (yT L).1 (yT L).2=true then some (val (yT L).1 (yT L).2)else none
theorem XI (L:List UInt8):(yT L).1=8∨(yT L).1=10∨(yT L).1=16:=by
 unfold yT
 repeat' split
 all_goals simp
def sat (n:Nat):Nat:=min n 4294967296
theorem XF (v b d:Nat) (a:1≤b):min (sat v*b+d) 4294967296=sat (v*b+d):=by
 unfold sat;by_cases h:v≤4294967296
 ·rw[Nat.min_eq_left h]
 rw[Nat.min_eq_right (show 4294967296≤v by omega)];have e:4294967296≤4294967296*b:=Nat.le_mul_of_pos_right _ a;have c:4294967296*b≤v*b:=Nat.mul_le_mul_right _ (by omega);omega
def big (b:Nat) (L:List UInt8):Nat:=L.foldl (fun n c=>if n<1099511627776 then n*b+dv c else n) 0
theorem Ew (b:Nat) (L:List UInt8) (c:UInt8):big b (L++[c])=if big b L<1099511627776 then big b L*b+dv c else big b L:=by
 unfold big;rw[List.foldl_append];rfl
theorem YW (b:Nat) (e:1≤b) (L:List UInt8):(big b L<1099511627776∧big b L=val b L)∨(1099511627776≤big b L∧1099511627776≤val b L):=by
 have H:∀M:List UInt8,(big b M.reverse<1099511627776∧big b M.reverse=val b M.reverse)∨(1099511627776≤big b M.reverse∧1099511627776≤val b M.reverse):=by
  intro M;induction M with
  |nil=>exact .inl ⟨by show(0:Nat)<_;omega,rfl⟩
  |cons c M ih=>
   rw[List.reverse_cons,Ew,lM];rcases ih with⟨a,d⟩|⟨a,d⟩
   ·rw[if_pos a,d];by_cases h:val b M.reverse*b+dv c<1099511627776
    ·exact .inl ⟨h,rfl⟩
    exact .inr ⟨by omega,by omega⟩
   rw[if_neg (by omega)];have:val b M.reverse≤val b M.reverse*b:=Nat.le_mul_of_pos_right _ e;exact .inr ⟨a,by omega⟩
 have:=H L.reverse
 rwa[List.reverse_reverse]at this
theorem aa9 (c:UInt8):dv c≤15:=by have:=wo c;unfold dv;omega
theorem Vk (b:Nat) (a:b≤16) (L:List UInt8):big b L≤17592186044431:=by
 have H:∀M:List UInt8,big b M.reverse≤17592186044431:=by
  intro M;induction M with
  |nil=>simp[big]
  |cons c M ih=>
   rw[List.reverse_cons,Ew];split
   ·rename_i h;have d:big b M.reverse*b≤1099511627775*16:=Nat.mul_le_mul (by omega) a;have:=aa9 c;omega
   exact ih
 have:=H L.reverse
 rwa[List.reverse_reverse]at this
def dh:List UInt8→List (List UInt8)
 |[]=>[[]]
 |c::L=>if c=46 then[]::dh L else match dh L with
  |[]=>[[c]]
  |x::r=>(c::x)::r
theorem oG:∀L:List UInt8,dh L≠[]
 |[]=>by simp[dh]
 |c::L=>by
  unfold dh
  split
  ·simp
  ·split<;>simp
theorem sF:∀L:List UInt8,dh (L++[46])=dh L++[[]]
 |[]=>rfl
 |c::L=>by
  rw[List.cons_append,dh,dh,sF L]
  split
  ·rfl
  ·have:=oG L
   cases h:dh L with
   |nil=>exact absurd h this
   |cons x r=>rfl
theorem pG (d:UInt8) (e:d≠46):∀L:List UInt8,∃a x,dh L=a++[x]∧dh (L++[d])=a++[x++[d]]
 |[]=>⟨[],[],rfl,by simp[dh,e]⟩
 |c::L=>by
  obtain⟨a,x,g,f⟩:=pG d e L
  rw[List.cons_append,dh,dh,g,f]
  split
  ·exact⟨[]::a,x,rfl,rfl⟩
  ·cases a with
   |nil=>exact⟨[],c::x,rfl,rfl⟩
   |cons y ys=>exact⟨(c::y)::ys,x,rfl,rfl⟩
def vN (L:List UInt8):List UInt8:=Lib.trimSuffix L [46]
theorem Kt (L:List UInt8):vN (L++[46])=L:=by
 unfold vN Lib.trimSuffix;rw[if_pos (by simp[Lib.hasSuffix])];simp
theorem Cj (L:List UInt8) (d:UInt8) (c:d≠46):vN (L++[d])=L++[d]:=by
 unfold vN Lib.trimSuffix;rw[if_neg ?_];intro h;simp only[Lib.hasSuffix,List.isSuffixOf_iff_suffix]at h;obtain⟨t,a⟩:=h;have:=List.append_inj_right' a rfl;simp at this;exact c this.symm
def prt (l:List (List UInt8)):List (List UInt8):=if 1<l.length∧l.getLast?=some []then l.take (l.length - 1)else l
theorem Sv (L:List UInt8):L=[]∨(∃M,L=M++[46])∨∃M d,d≠46∧L=M++[d]:=by
 rcases List.eq_nil_or_concat L with h|⟨M,d,h⟩
 ·exact .inl h
 rw[List.concat_eq_append]at h;by_cases hd:d=46
 ·exact .inr (.inl ⟨M,by rw[h,hd]⟩)
 exact .inr (.inr ⟨M,d,hd,h⟩)
theorem MP (L:List UInt8):prt (dh L)=dh (vN L):=by
 rcases Sv L with rfl|⟨M,rfl⟩|⟨M,d,hd,rfl⟩
 ·rfl
 ·rw[sF,Kt];have:=List.length_pos_iff.2 (oG M);unfold prt;rw[if_pos ⟨by simp;omega,by simp⟩];simp
 rw[Cj _ _ hd];obtain⟨c,x,e,a⟩:=pG d hd M;rw[a];unfold prt;rw[if_neg (by simp)]
theorem oP (L:List UInt8):(dh L).length≤L.length+1:=by
 induction L with
 |nil=>simp[dh]
 |cons c L ih=>
  unfold dh;split
  ·simp;omega
  split
  ·simp
  rename_i h;rw[h]at ih;simp at ih⊢;omega
theorem nX:∀(L:List UInt8),∀x ∈ dh L,x.length≤L.length
 |[],x,h=>by simp[dh]at h;subst h;simp
 | c :: L, x, h => by
  unfold dh at h
  split at h
  ·rcases List.mem_cons.1 h with rfl|h
   ·simp
   ·have:=nX L x h;simp;omega
  ·split at h
   ·simp at h;subst h;simp
   ·rename_i y r e
    rcases List.mem_cons.1 h with rfl|h
    ·have:=nX L y (by rw[e];simp);simp;omega
    ·have:=nX L x (by rw[e];simp[h]);simp;omega
theorem xO (L:List UInt8):(vN L).length≤L.length:=by
 unfold vN Lib.trimSuffix;split
 ·rw[List.length_take];omega
 exact Nat.le_refl _
def xU:Nat→Nat→List (List UInt8)→Option Nat
 |_,acc,[]=>some acc
 |most,acc,[p]=>match num p with
  |some v=>if v<most then some (acc+v)else none
  |none=>none
 |most,acc,p::q::r=>match num p with
  |some v=>if v≤255 then xU (most / 256) (acc+v*(most / 256)) (q::r)else none
  |none=>none
def Dx (L:List UInt8):Option Nat:=if (dh (vN L)).length≤4 then xU 4294967296 0 (dh (vN L))else none
def lst (L:List UInt8):List UInt8:=((dh L).getLast?).getD []
def ends (L:List UInt8):Bool:=(num (lst (vN L))).isSome||(decide (lst (vN L)≠[])&&fV 10 (lst (vN L)))
theorem sS (c:UInt8):dw.digit c.toNat=mP 10 c:=by
 have H:∀n:Fin 256,dw.digit (n.val:Int)=(decide (0≤hex (n.val:Int))&&decide (hex (n.val:Int)<(10:Nat))):=by decide+kernel
 exact H ⟨c.toNat,c.toNat_lt⟩
theorem SE (s : ByteArray) : s.data.toList.drop (Lib.lastIndexByte s 46 + 1).toNat = lst s.data.toList ∧ -1 ≤ Lib.lastIndexByte s 46 ∧ Lib.lastIndexByte s 46 < s.size := by
 have n:∀j (h:j<s.data.toList.length),s.data[j]! =s.data.toList[j]:=fun j h=>by
  rw[getElem!_pos s.data j (by simpa using h)];simp
 have zO:∀M:List UInt8,(∀c ∈ M,c≠46)→dh M=[M]:=by
  intro M;induction M with
  |nil=>intro _;rfl
  |cons c M ih=>
   intro h;rw[dh,if_neg (h c (by simp)),ih fun d hd=>h d (by simp[hd])]
 have a:∀(A M:List UInt8),(∀c ∈ M,c≠46)→lst (A++46::M)=M:=by
  intro A M k;induction A with
  |nil=>
   unfold lst;rw[List.nil_append,dh,if_pos rfl,zO M k];rfl
  | cons c A ih=>
   have f:=oG (A++46::M);unfold lst at ih⊢;rw[List.cons_append,dh];split
   ·rw[List.getLast?_cons_of_ne_nil f];exact ih
   cases h:dh (A++46::M)with
   |nil=>exact absurd h f
   | cons x r=>
    rw[h]at ih;cases r with
    | nil=>
     exfalso
     have:2≤(dh (A++46::M)).length:=by
      clear ih h f;induction A with
      |nil=>rw[List.nil_append,dh,if_pos rfl,zO M k];simp
      |cons c A ih=> 
       rw[List.cons_append,dh];split
       ·simp;omega
       split
       ·rename_i e;rw[e]at ih;simp at ih
       rename_i e;rw[e]at ih;simpa using ih
     rw[h]at this;simp at this
    |cons y r'=>simpa using ih
 have z:s.data.toList.length=s.size:=Array.length_toList;rcases Lib.lastIndexByte_spec s 46 with⟨t,q⟩|⟨i,hi,t,q,B⟩
 ·rw[t];refine⟨?_,by omega,by omega⟩;show s.data.toList.drop 0=_;rw[List.drop_zero];unfold lst;rw[zO]
  ·rfl
  intro c m;obtain⟨j,l,rfl⟩:=List.getElem_of_mem m;have:=q j (by omega);rw[n j l]at this;intro e;rw[e]at this;exact this rfl
 rw[t];refine⟨?_,by omega,by omega⟩;have g:i<s.data.toList.length:=by omega
 have v:s.data.toList[i]=46:=by
  rw[n i g]at q;exact UInt8.toNat_inj.1 (by show _=46;omega)
 have e:s.data.toList=s.data.toList.take i++46::s.data.toList.drop (i+1):=by
  conv=>lhs;rw[←List.take_append_drop i s.data.toList,List.drop_eq_getElem_cons g,v]
 have k:∀c ∈ s.data.toList.drop (i+1),c≠46:=by
  intro c m;obtain⟨j,l,rfl⟩:=List.getElem_of_mem m;rw[List.length_drop]at l;rw[List.getElem_drop];have:=B (i+1+j) (by omega) (by omega);rw[n _ (by omega)]at this;intro e;rw[e]at this;exact this rfl
 have w:((i:Int)+1).toNat=i+1:=by omega
 rw[w]
 conv=>rhs;rw[e]
 rw[a _ _ k]
end lX
