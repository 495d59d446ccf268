/- Lemmas. -/
import Derived.Test.YtgockiomacchoaaGreatDoorPRBAP
set_option linter.unusedSimpArgs false
set_option linter.unusedVariables false
set_option maxRecDepth 100000
set_option maxHeartbeats 64000000
namespace Go.Proofs.YtgockiomacchoaaGreatDoor
open Tryz
namespace eH
open Go.RowKit
def mX (c:Bool) (k:Keep):Keep:=⟨fun u w=>(c=true→k.says u w)∧(c=false→u=undef),fun _ _ _ hb h=>⟨fun hc=>k.stays _ _ _ hb (h.1 hc),h.2⟩⟩
theorem rgW (c:Bool) (k:Keep) (u:Value) (w:World):(mX c k).says u w=((c=true→k.says u w)∧(c=false→u=undef)):=rfl
theorem Qn:(!false)=true∧(!true)=false∧(∀b,(b&&true)=b)∧(∀b,(b&&false)=false)∧(∀b,(true&&b)=b)∧(∀b,(false&&b)=false)∧(∀b,(b||true)=true)∧(∀b,(b||false)=b)∧(∀b,(true||b)=true)∧(∀b,(false||b)=b)∧(∀b:Bool,(b=b)=True)∧(false=true)=False∧(true=false)=False∧(∀p:Prop,(False→p)=True)∧(∀p:Prop,(True→p)=p)∧(∀p,(p∧True)=p)∧∀p,(True∧p)=p:=by
 refine⟨rfl,rfl,?_,?_,?_,?_,?_,?_,?_,?_,?_,?_,?_,?_,?_,?_,?_⟩<;>intros<;>simp
section
variable {P:Program} {ops:Array Oper} {Q:Exit→Act→World→Prop}
def acP (P:Program) (ops:Array Oper) (Q:Exit→Act→World→Prop) (l:List Oper) (a:Act) (w0:World) (R:List Keep) (i:Nat) (o:Oper) (ns:List Nat):Prop:=
 ∀t w,Below w0.heap.size w0 w→Have R t w ns→∀K:Act→World→Prop,(∀v w',Below w.heap.size w w'→(pick R i).says v w'→K ((dP t i l 0 a).put o.dst v) w')→
  if Region.wanted o (yielded ops (dP t i l 0 a).tmps)=true then Oper.wp P o (dP t i l 0 a) w K Q else K ((dP t i l 0 a).put o.dst undef) w
def Ir (P:Program) (ops:Array Oper) (Q:Exit→Act→World→Prop) (l:List Oper) (a:Act) (w0:World) (R:List Keep):Nat→List Oper→List (List Nat)→Prop
 |_,[],_=>True
 |k,o::os,ns=>acP P ops Q l a w0 R k o (ns.headD [])∧Ir P ops Q l a w0 R (k+1) os ns.tail
theorem yw (t c:Nat→Value):∀(n:Nat) (os:List Oper) (k:Nat) (a:Act),(∀j,k≤j→j<k+n→t j=c j)→dP t n os k a=dP c n os k a
 |0,_,_,_,_=>rfl
 |_+1,[],_,_,_=>rfl
 |n+1,o::os,k,a,h=>by
  show dP t n os (k+1) (a.put o.dst (t k))=dP c n os (k+1) (a.put o.dst (c k))
  rw[h k (Nat.le_refl _) (by omega),yw t c n os (k+1) _ fun j h1 h2=>h j (by omega) (by omega)]
theorem zL (t:Nat→Value):∀(n:Nat) (os:List Oper) (k:Nat) (a:Act) (o:Oper),os[n]?=some o→dP t (n+1) os k a=(dP t n os k a).put o.dst (t (k+n))
 |0,[],_,_,_,h=>by simp at h
 |0,p::os,k,a,o,h=>by
  simp at h
  subst h
  rfl
 |n+1,[],_,_,_,h=>by simp at h
 |n+1,p::os,k,a,o,h=>by
  show dP t (n+1) os (k+1) (a.put p.dst (t k))=_
  rw[zL t n os (k+1) _ o (by simpa using h),show k+1+n=k+(n+1)by omega]
  rfl
def Zp (ns:List (List Nat)):Bool:=(List.range ns.length).all fun i=>(ns.getD i []).all fun k=>decide (k<i)
theorem UJ {R:List Keep} {t:Nat→Value} {w:World} {n:Nat} (h:Have R t w (List.range n)) (a:List Nat) (c:∀k ∈ a,k<n):Have R t w a:=
 mM a fun k hk'=>aO h k (c k hk')
theorem UK {R:List Keep} {t:Nat→Value} {w w':World} {n:Nat} {v:Value} (h:Have R t w (List.range n)) (d:Below w.heap.size w w') (c:(pick R n).says v w'):Have R (upd t n v) w' (List.range (n+1)):=
 mM _ fun k a=>by
  have a:=List.mem_range.1 a
  by_cases e:k=n
  ·subst e;simpa[upd]using c
  ·have:=aO h k (by omega)
   simp only[upd,if_neg e]
   exact(pick R k).stays _ _ _ d this
theorem FU {l:List Oper} {a:Act} {w0:World} {R:List Keep}
  (fin:∀t w,Below w0.heap.size w0 w→Have R t w (List.range l.length)→Q .normal (dP t l.length l 0 a) w):
  ∀(os:List Oper) (k:Nat) (ns:List (List Nat)),(∀j,os[j]?=l[k+j]?)→k+os.length=l.length→(∀i,∀x ∈ ns.getD i [],x<k+i)→Ir P ops Q l a w0 R k os ns→
   ∀t w,Below w0.heap.size w0 w→Have R t w (List.range k)→wpList P ops Q os (dP t k l 0 a) w
 |[],k,ns,_,hk,_,_,t,w,hb,hh=>by
  have:k=l.length:=by simpa using hk
  subst this
  exact fin t w hb hh
 | o ::os,k,ns,he,hk,hn,hs,t,w,hb,hh=>by
  have e:l[k]?=some o:=by simpa using(he 0).symm
  have c:∀x ∈ ns.headD [],x<k:=fun x hx=>by
   have:=hn 0 x (by cases ns with|nil=>cases hx|cons a b=>exact hx)
   simpa using this
  have:=hs.1 t w hb (UJ hh _ c) (wpList P ops Q os) fun v w' hb' hv=>by
   have d:=FU fin os (k+1) ns.tail (fun j=>by have:=he (j+1);simpa[Nat.add_assoc,Nat.add_comm 1 j]using this) (by simp at hk;omega)
    (fun i x hx=>by
     have:=hn (i+1) x (by cases ns with|nil=>cases hx|cons a b=>exact hx)
     omega) hs.2 (upd t k v) w' (hb.trans (hb'.mono hb.size)) (UK hh hb' hv)
   rw[zL _ k l 0 a o e,yw (upd t k v) t k l 0 a (fun j _ h2=>by simp[upd];omega)]at d
   simpa[upd]using d
  unfold wpList
  split
  ·rename_i hw
   rw[if_pos hw]at this
   exact .inl this
  ·rename_i hw
   rw[if_neg hw]at this
   exact this
theorem OQ {l:List Oper} {a:Act} {w:World} (R:List Keep) (ns:List (List Nat)) (d:Zp ns=true)
  (c:Ir P ops Q l a w R 0 l ns)
  (fin:∀t w',Below w.heap.size w w'→Have R t w' (List.range l.length)→Q .normal (dP t l.length l 0 a) w'):wpList P ops Q l a w:=by
 refine FU (ops:=ops) (l:=l) fin l 0 ns (fun j=>by simp) (by simp) (fun i x hx=>?_) c (fun _=>undef) w (Below.refl _ _) trivial;by_cases hi:i<ns.length
 ·have:=List.all_eq_true.1 d i (List.mem_range.2 hi);have:=List.all_eq_true.1 this x hx;simpa using this
 ·rw[List.getD_eq_getElem?_getD,List.getElem?_eq_none (by omega)]at hx;cases hx
theorem yE {d:Nat} {a:Act} {w:World} {l:List Oper} (R:List Keep) (ns:List (List Nat)) (e:Zp ns=true)
  (c:Ir P l.toArray Q l a w R 0 l ns)
  (fin:∀t w',Below w.heap.size w w'→Have R t w' (List.range l.length)→Q .normal (dP t l.length l 0 a) w'):(Code.region d l.toArray false).wp P Q a w:=
 wp_region_lit (OQ R ns e c fin)
end
end eH
namespace QF
open Go.RowKit dL aan
theorem same_iff (A z y x:ByteArray) (C:Bool) (v:Int) (j:Bool) (w:ByteArray) (J:Option Addr) (I F:Nat) (E:List ByteArray) (B g:Bool) (f e r q n m:ByteArray) (t:Bool) (k:Int) (i:Bool) (l:ByteArray) (H:Option Addr) (G D:Nat) (bl:List ByteArray) (s d:Bool) (c a:ByteArray):tH A z y x C v j w E B g f e=tH r q n m t k i l bl s d c a↔(A.data.toList=r.data.toList∧z.data.toList=q.data.toList∧y.data.toList=n.data.toList∧v=k∧txt C x=txt t m∧spB j i w l E bl=true∧txt B f=txt s c∧txt g e=txt d a):=by
 unfold tH;simp only[Prod.mk.injEq,List.cons.injEq,Option.some.injEq,and_true];cases j<;>cases i<;>simp[spB,txt]<;>constructor<;>(intro h;simp[h])
def Bx (w:World) (b:Nat) (c:Array Value):Prop:=w.heap[b]?=some (.cells c 25 (0,0))
theorem Bx.cell {w:World} {b:Nat} {c:Array Value} (h:Bx w b c) (i:Nat):w.cell? ⟨b,i,none⟩=c[i]?:=cell_of_row w b i _ _ _ h
theorem jT {w:World} {b:Nat} {q n m l k j i g f e d c a:Value} (h:Bx w b #[q,n,m,l,k,j,i,g,f,e,d,c,a]):
  w.cell? ⟨b,0,none⟩=some q∧w.cell? ⟨b,1,none⟩=some n∧w.cell? ⟨b,2,none⟩=some m∧w.cell? ⟨b,3,none⟩=some l∧w.cell? ⟨b,4,none⟩=some k∧w.cell? ⟨b,5,none⟩=some j∧w.cell? ⟨b,6,none⟩=some i∧w.cell? ⟨b,7,none⟩=some g∧w.cell? ⟨b,8,none⟩=some f∧w.cell? ⟨b,9,none⟩=some e∧w.cell? ⟨b,10,none⟩=some d∧w.cell? ⟨b,11,none⟩=some c∧w.cell? ⟨b,12,none⟩=some a:=
 ⟨(h.cell 0).trans rfl,(h.cell 1).trans rfl,(h.cell 2).trans rfl,(h.cell 3).trans rfl,(h.cell 4).trans rfl,(h.cell 5).trans rfl,(h.cell 6).trans rfl,(h.cell 7).trans rfl,(h.cell 8).trans rfl,(h.cell 9).trans rfl,(h.cell 10).trans rfl,(h.cell 11).trans rfl,(h.cell 12).trans rfl⟩
end QF
namespace Ti
open Go.RowKit Base
theorem ZN:(prog.info? 73).map (·.size)=some 2:=by kernel_rfl
theorem ads:liesAt prog prog.depth 73 (2 / prog.cellsOf 73) 0 73 1=true:=by kernel_rfl
abbrev FY (B b:Nat) (l:List UInt8) (w:World):Prop:=Lib.IsBuilder 73 5 B b (Lib.byteCells l) w
theorem Ec (b:Nat) (w:World) (c:w.cell? ⟨b,0,none⟩=some (.pointer (some ⟨b,0,none⟩))):
  Calls prog 122 #[.pointer (some ⟨b,0,none⟩)] w fun e w'=>e=.returned (.tuple #[])∧w'=w:=by
 obtain⟨j,a,_⟩:=Option.map_eq_some_iff.1 ZN;go_enter func122,ntmps122;go_wp2;rw[Lib.run_neq_ptr_same w _ underlying71 a];go_wp2
 go_end0
 exact⟨rfl,rfl⟩
theorem Cc (b:Nat) (w:World) (g:w.cell? ⟨b,0,none⟩=some (.pointer none)) (a:w.shape? b=some (73,2)) (f:w.frozen? ⟨b,0,none⟩=false):
  Calls prog 122 #[.pointer (some ⟨b,0,none⟩)] w fun e w'=>e=.returned (.tuple #[])∧w'=w.setCell ⟨b,0,none⟩ (.pointer (some ⟨b,0,none⟩)):=by
 obtain⟨j,d,c⟩:=Option.map_eq_some_iff.1 ZN;go_enter func122,ntmps122;go_wp2;rw[Lib.run_to_unsafe w ⟨b,0,none⟩ underlying71 underlying135 d (by rw[c];decide) a (Nat.zero_lt_succ 1)];simp only[Result.andThen];rw[Oper.upon_value];go_wp2;rw[run_callFunc_extern func147 (by kernel_rfl) (by kernel_rfl) (by kernel_rfl) (e:=Extern.AbiNoEscape.same) (by kernel_rfl)];rw[Lib.run_noEscape];simp only[Result.andThen];rw[Oper.upon_value];go_wp2;rw[Lib.run_from_unsafe w ⟨b,0,none⟩ underlying135 underlying71 d a ads];simp only[Result.andThen];rw[Oper.upon_value];go_wp2
 go_end0
 exact⟨rfl,rfl⟩
theorem check_any (B b:Nat) (bs:List Value) (w:World) (h:Lib.IsBuilder 73 5 B b bs w):
  Calls prog 122 #[.pointer (some ⟨b,0,none⟩)] w fun e w'=>e=.returned (.tuple #[])∧(Lib.BuilderAt 73 5 B b (.pointer (some ⟨b,0,none⟩)) bs w'∧Below B w w'):=by
 rcases h with h|h
 ·refine(Cc b w h.cell0 h.shape h.frozen0).mono ?_;rintro e w' ⟨rfl,rfl⟩;exact⟨rfl,h.used _,(Below.refl B w).setCell (p:=⟨b,0,none⟩) h.1 _⟩
 ·refine(Ec b w h.cell0).mono ?_;rintro e w' ⟨rfl,rfl⟩;exact⟨rfl,h,Below.refl B _⟩
theorem nP (B b:Nat) (l:List UInt8) (s:ByteArray) (w:World) (h:FY B b l w) (F:l.length+s.size≤140737488355328) (N:B≤w.heap.size):
  Calls prog 63 #[.pointer (some ⟨b,0,none⟩),.string s] w fun e w'=>e=.returned (.tuple #[.int .i64 s.size,.nilIface])∧FY B b (l++s.data.toList) w'∧Below B w w':=by
 obtain⟨J,hi,z,y,x⟩:=info_parts qU;have n:(Lib.byteCells l).length=l.length:=by simp[Lib.byteCells]
 have q:=Base.hid n;clear n;go_enter func63,ntmps63;go_wp2_with (refine(check_any B b _ _ h).mono ?_)
 rintro e t ⟨rfl,O,j⟩;obtain⟨G,v,d,i,C⟩:=O;have Y:t.cell? ⟨b,0,none⟩=some (.pointer (some ⟨b,0,none⟩)):=by rw[Lib.cell_of_heap d];rfl
 have X:t.cell? ⟨b,1,none⟩=some v:=by rw[Lib.cell_of_heap d];rfl
 go_wp2_with (at_builtin;refine Lib.wpList_append_own_string _ rfl _ _ 50 9 rfl B 5 J underlying50 underlying9 hi z y x _ _ _ rfl i s rfl ?c3 ?c4 ?c5 ?_)
 case c3=>have:=q.out;unfold maxLen;omega
 case c4=>have:=q.out;omega
 case c5=>have:=j.size;omega
 intro I r a c _;have D:b<t.heap.size:=(Array.getElem?_eq_some_iff.1 d).1;have f:r.heap[b]?=some (.cells #[.pointer (some ⟨b,0,none⟩),v] 73 (0,0)):=by
  rw[c.block b D (fun e=>C e.symm)];exact d
 have W:r.cell? ⟨b,0,none⟩=some (.pointer (some ⟨b,0,none⟩)):=by rw[Lib.cell_of_heap f];rfl
 have V:r.cell? ⟨b,1,none⟩=some v:=by rw[Lib.cell_of_heap f];rfl
 have Q:r.frozen? ⟨b,1,none⟩=false:=Lib.frozen_of_heap f 1;obtain⟨H,E,m,rfl⟩:∃H E m,I=.slice H E m:=by
  rcases a.2 with⟨A,_⟩|⟨g,m,P,A,_⟩
  ·exact⟨_,_,_,A⟩
  ·exact⟨_,_,_,A⟩
 go_wp2;go_ret2;refine⟨rfl,Or.inr ?_,?_⟩
 ·have L:=Lib.BuilderAt.put (T:=73) (e:=5) G f (bs':=Lib.byteCells l++Lib.strCells s) (by simpa[Lib.strCells_length]using a) (by decide);have e:Lib.byteCells (l++s.data.toList)=Lib.byteCells l++Lib.strCells s:=by simp[Lib.byteCells,Lib.strCells]
  rw[e];exact L
 ·exact(j.grown c (by have:=j.size;omega) (fun k hk=>(i.lt k hk).1)).setCell (p:=⟨b,1,none⟩) G _
end Ti
namespace acS
open Go.RowKit Base bf dL Ti
theorem uX (B b:Nat) (l:List UInt8) (w:World) (h:FY B b l w) (a:B≤w.heap.size):
  Calls prog 67 #[.pointer (some ⟨b,0,none⟩)] w fun e w'=>e=.returned (.string (ah l))∧Below B w w':=Tryz.Builder_String B b l w h a
theorem Uj (v a c t:ByteArray) (b4:Bool) (r:Int) (D:Bool) (s:ByteArray) (A:Option Addr) (n m:Nat) (l:List ByteArray) (C q:Bool) (i h:ByteArray) (w:World) (G:a.size≤1073741824) (F:c.size≤1073741824):
  Calls prog 64 #[.agg #[.string v,.string a,.string c,.string t,.bool b4,.int .i64 r,.bool D,.string s,.slice A n m,.bool C,.bool q,.string i,.string h]] w fun e w'=>e=.returned (.string (ah (kY a c)))∧Below w.heap.size w w':=by
 have f:a.data.toList.length=a.size:=Array.length_toList;have d:c.data.toList.length=c.size:=Array.length_toList;by_cases e2:c.data.toList=[]
 ·have y:c.toList=[]:=by rw[tl];exact e2
  have HC:Hid (kY a c=if a.data.toList=[]then[]else a.data.toList++[64]):=if_pos e2;by_cases e1:a.data.toList=[]
  ·have B:a.toList=[]:=by rw[tl];exact e1
   have g:Hid (kY a c=[]):=HC.trans (if_pos e1);clear e1 e2 f d;go_enter func64,ntmps64;go_wp2;go_ret;exact⟨by rw[g.out];rfl,(Below.refl _ _).alloc (Nat.le_refl _) _⟩
  ·have B:(a.toList==[])=false:=by rw[tl];simpa using e1
   have z:a.toList.isEmpty=false:=by rw[tl];simpa using e1
   have g:Hid (kY a c=a.data.toList++[64]):=HC.trans (if_neg e1);have E:∀w:World,(Op.stringOp .add a ⟨#[64]⟩).run prog w=.ok (.string (ah (a.data.toList++[64]))) w:=fun w=>iY a ⟨#[64]⟩ w (by show a.size+1≤_;omega);clear e1 e2 f d;go_enter func64,ntmps64;go_wp2;go_ret;exact⟨by rw[g.out];rfl,(Below.refl _ _).alloc (Nat.le_refl _) _⟩
 ·have y:(c.toList==[])=false:=by rw[tl];simpa using e2
  have x:c.toList.isEmpty=false:=by rw[tl];simpa using e2
  have HC:Hid (kY a c=a.data.toList++[58]++c.data.toList++[64]):=if_neg e2;obtain⟨X,k⟩:∃X,X=ah (a.data.toList++[58]):=⟨_,rfl⟩;obtain⟨Y,j⟩:∃Y,Y=ah (a.data.toList++[58]++c.data.toList):=⟨_,rfl⟩;have E:∀w:World,(Op.stringOp .add a ⟨#[58]⟩).run prog w=.ok (.string X) w:=fun w=>by rw[k];exact iY a ⟨#[58]⟩ w (by show a.size+1≤_;omega)
  have I:∀w:World,(Op.stringOp .add X c).run prog w=.ok (.string Y) w:=fun w=>by rw[k,j];exact iY _ c w (by rw[ak,List.length_append];simp;omega)
  have H:∀w:World,(Op.stringOp .add Y ⟨#[64]⟩).run prog w=.ok (.string (ah (kY a c))) w:=fun w=>by rw[HC.out,j];exact iY _ ⟨#[64]⟩ w (by rw[ak];simp;show _+1≤_;omega)
  clear e2 f d k j;go_enter func64,ntmps64;go_wp2;go_ret;exact⟨rfl,(Below.refl _ _).alloc (Nat.le_refl _) _⟩
theorem Vw (s0 s1 s2 s3:ByteArray) (b4:Bool) (Z:Int) (J:Bool) (D:ByteArray) (A:Option Addr) (n r:Nat) (l:List ByteArray) (b9 L:Bool) (F E:ByteArray) (w:World) (C:dV w A n (l.map Value.string)) (a3:n≤r) (I:r≤maxLen) (h7:D.size≤1073741824) (T:(aF l).length≤1073741824):
  Calls prog 66 #[.agg #[.string s0,.string s1,.string s2,.string s3,.bool b4,.int .i64 Z,.bool J,.string D,.slice A n r,.bool b9,.bool L,.string F,.string E]] w fun e w'=>e=.returned (.string (ah (qC J D l)))∧Below w.heap.size w w':=by
 have G:l.length=n:=by rw[←C.1,List.length_map]
 have a:=nH l;unfold maxLen at I;cases J with
 |true=>
  clear G a;clear C;go_enter func66,ntmps66;go_wp2;go_ret;exact⟨rfl,(Below.refl _ _).alloc (Nat.le_refl _) _⟩
 | false=>
  have HR:=hid C;have W:=hid G;have N:=hid a;have O:=hid T;clear C G a T;go_enter func66,ntmps66;go_wp2;generalize hw1:w.alloc _=w1;have x:Below w.heap.size w w1:=by rw[←hw1];exact(Below.refl _ _).alloc (Nat.le_refl _) _
  have m:w1.heap.size=w.heap.size+1:=by rw[←hw1];simp
  clear hw1;have Q:Hid (FY (w.heap.size+1) (w.heap.size+1) [] (w1.alloc (.cells #[.pointer none,.slice none 0 0] 73))):=by
   have h:=Lib.fresh_isBuilder 73 5 w1;rw[m]at h;exact h
  go_loopw [5,13] (fun _ vk wr=>∃k:Nat,k≤n∧vk=.int .i64 (k:Int)∧Hid (FY (w.heap.size+1) (w.heap.size+1) (aF (l.take k)) wr)∧Hid (Below (w.heap.size+1) w1 wr)) (fun _ vk _=>n - (intOf vk).toNat)
  case atStart=>exact⟨0,Nat.zero_le _,rfl,Q,(Below.refl _ _).alloc (by rw[m];exact Nat.le_refl _) _⟩
  case round=>
   obtain⟨k,hk,rfl,Y,f⟩:=hrel;have t:w.heap.size+1≤wr.heap.size:=by have:=f.size;rw[m]at this;exact this
   by_cases hlt:k<n
   ·have d:k<l.length:=by rw[W.out];exact hlt
    have y:=HR.below (x.trans (f.mono (by omega)));obtain⟨g,a0,rfl,hg,c⟩:=y.spot (by omega);have V:=c k (by rw[List.length_map];exact d);rw[List.getElem_map]at V;obtain⟨s,B⟩:∃s,s=l[k]:=⟨_,rfl⟩;have HS:Hid (l.take (k+1)=l.take k++[s]):=by rw[B];exact dH l k d
    rw[←B]at V;have i:=abo l k d;have j:=MC l (k+1);have v:=nH (l.take k);rw[List.length_take,Nat.min_eq_left (by omega)]at v;have a:=N.out;have H:=O.out;rw[←B]at i;have a2:s.size≤1073741824:=by omega
    have a1:∀w:World,(Op.stringOp .add ⟨#[47]⟩ s).run prog w=.ok (.string (ah ([47]++s.data.toList))) w:=fun w=>iY ⟨#[47]⟩ s w (by show 1+s.size≤_;omega);have z:Hid ((aF (l.take k)).length+(1+s.size)≤140737488355328):=by show _≤_;omega
    clear B i j v a H y c d;go_wp2_with (refine(nP _ _ _ _ _ Y (by rw[ak];have:=z.out;simp at this⊢;omega) t).mono ?_;rintro e w3 ⟨rfl,P,q⟩)
    go_roundw
    case rel=>exact⟨k+1,by omega,by go_num,by
     rw[HS.out,Lr];exact P,f.trans q⟩
    case measure=>simp[intOf];omega
   ·obtain rfl:k=n:=by omega
    have HT:Hid (l.take k=l):=List.take_of_length_le (by rw[W.out];exact Nat.le_refl _);go_wp2_with (refine(uX _ _ _ _ Y t).mono ?_;rintro e w3 ⟨rfl,q⟩)
    go_ret;exact⟨congrArg (fun X=>Ending.returned (.string (ah (aF X)))) HT,x.trans ((f.trans q).mono (by omega))⟩
end acS
namespace QE
open Go.RowKit Base bf dL Ti acS eH
def Box (w:World) (b:Nat) (c:Array Value):Prop:=w.heap[b]?=some (.cells c 25 (0,0))
theorem Box.cell {w:World} {b:Nat} {c:Array Value} (h:Box w b c) (i:Nat):w.cell? ⟨b,i,none⟩=c[i]?:=cell_of_row w b i _ _ _ h
theorem Box.below {w w':World} {B b:Nat} {c:Array Value} (h:Box w b c) (a:Below B w w') (d:b<B):Box w' b c:=(a.block b d).trans h
theorem jT {w:World} {b:Nat} {q n m l k j i g f e d c a:Value} (h:Box w b #[q,n,m,l,k,j,i,g,f,e,d,c,a]):
  w.cell? ⟨b,0,none⟩=some q∧w.cell? ⟨b,1,none⟩=some n∧w.cell? ⟨b,2,none⟩=some m∧w.cell? ⟨b,3,none⟩=some l∧w.cell? ⟨b,4,none⟩=some k∧w.cell? ⟨b,5,none⟩=some j∧w.cell? ⟨b,6,none⟩=some i∧w.cell? ⟨b,7,none⟩=some g∧w.cell? ⟨b,8,none⟩=some f∧w.cell? ⟨b,9,none⟩=some e∧w.cell? ⟨b,10,none⟩=some d∧w.cell? ⟨b,11,none⟩=some c∧w.cell? ⟨b,12,none⟩=some a:=
 ⟨(h.cell 0).trans rfl,(h.cell 1).trans rfl,(h.cell 2).trans rfl,(h.cell 3).trans rfl,(h.cell 4).trans rfl,(h.cell 5).trans rfl,(h.cell 6).trans rfl,(h.cell 7).trans rfl,(h.cell 8).trans rfl,(h.cell 9).trans rfl,(h.cell 10).trans rfl,(h.cell 11).trans rfl,(h.cell 12).trans rfl⟩
theorem UW (z:Int) (d: -9223372036854775808≤z) (c:z≤9223372036854775807) (w:World) (a:Tab.Pow w):
  Calls prog 65 #[.int .i64 z] w fun e w'=>e=.returned (.string (ah (Lib.itoa z)))∧Below w.heap.size w w':=
 (strconv_Itoa z d c w a).mono fun e w' ⟨he,k,os,hw⟩=>⟨he,by rw[hw];exact Tab.below_grow w k os⟩
theorem nD (k:Nat):∀n,n<10^(k+1)→(Lib.decDigits n).length≤k+1:=by
 induction k with
 |zero=>intro n h;rw[Lib.decDigits,dif_pos (by omega)];simp
 |succ k ih=>
  intro n h;rw[Lib.decDigits];split
  ·simp
  have:=ih (n / 10) (by rw[Nat.pow_succ]at h;omega);rw[List.length_append];simp;omega
theorem KQ (z:Int) (c: -9223372036854775808≤z) (a:z≤9223372036854775807):(Lib.itoa z).length≤20:=by
 unfold Lib.itoa;split
 ·have:=nD 18 z.natAbs (by omega);simp;omega
 have:=nD 18 z.toNat (by omega);omega
theorem Kr (c a:ByteArray) (g:c.size≤1073741824) (f:a.size≤1073741824):(kY c a).length≤2147483650:=by
 have e:c.data.toList.length=c.size:=Array.length_toList;have d:a.data.toList.length=a.size:=Array.length_toList;unfold kY;split
 ·split
  ·simp
  rw[List.length_append];simp;omega
 rw[List.length_append,List.length_append,List.length_append];simp;omega
theorem Lh (a:Int) (d: -9223372036854775808≤a) (c:a≤9223372036854775807):(jV a).length≤21:=by
 have:=KQ a d c;unfold jV;split<;>simp<;>omega
theorem P7 (e d c:ByteArray) (b4:Bool) (a:Int) (k:Bool) (l:List ByteArray) (i:e.size≤1073741824) (h:d.size≤1073741824) (m:c.size≤1073741824) (j: -9223372036854775808≤a) (g:a≤9223372036854775807):(qp e d c b4 a k l).length≤4294967296:=by
 have:=Kr e d i h;have:=Lh a j g;have f:c.data.toList.length=c.size:=Array.length_toList;unfold qp;split
 ·rw[List.length_append,List.length_append,List.length_append];simp;omega
 split<;>simp
theorem xK {B b:Nat} {l:List UInt8} {w w':World} (h:FY B b l w) (c:Below w.heap.size w w'):FY B b l w':=by
 rcases h with⟨f,v,a,e,d⟩|⟨f,v,a,e,d⟩
 ·exact Or.inl ⟨f,v,(c.block _ (Array.getElem?_eq_some_iff.1 a).1).trans a,aZ e c,d⟩
 exact Or.inr ⟨f,v,(c.block _ (Array.getElem?_eq_some_iff.1 a).1).trans a,aZ e c,d⟩
theorem Uc (d m k i:ByteArray) (b4:Bool) (c:Int) (B:Bool) (D:ByteArray) (A:Option Addr) (n F:Nat) (l:List ByteArray) (b9 V:Bool) (f O:ByteArray) (w:World) (hR:dV w A n (l.map Value.string)) (g1:n≤F) (g7:F≤maxLen) (h6:d.size≤1073741824) (d2:m.size≤1073741824) (d1:k.size≤1073741824) (f9:i.size≤1073741824) (f8:D.size≤1073741824) (h3:f.size≤1073741824) (hz: -9223372036854775808≤c) (d0:c≤9223372036854775807) (hl:(aF l).length≤1073741824) (hT:Tab.Pow w):
  Calls prog 18 #[.agg #[.string d,.string m,.string k,.string i,.bool b4,.int .i64 c,.bool B,.string D,.slice A n F,.bool b9,.bool V,.string f,.string O]] w fun e w'=>e=.returned (.string (ah (vF d m k i b4 c B D l b9 f)))∧Below w.heap.size w w':=by
 have g6:d.data.toList.length=d.size:=Array.length_toList;have g5:i.data.toList.length=i.size:=Array.length_toList;have g4:D.data.toList.length=D.size:=Array.length_toList;have d8:f.data.toList.length=f.size:=Array.length_toList;have hn:l.length=n:=by rw[←hR.1,List.length_map]
 have HN:=hid hn;have f0:=hid (Kr m k d2 d1);have e9:=hid (KQ c hz d0);have h0:=hid (P7 m k i b4 c B l d2 d1 f9 hz d0);have W:Hid ((d.data.toList++[58]).length≤1073741825):=by show _≤_;rw[List.length_append];simp;omega
 obtain⟨CA,b3⟩:∃X,X=[47,47]++kY m k:=⟨_,rfl⟩;obtain⟨CB,b0⟩:∃X,X=CA++i.data.toList:=⟨_,rfl⟩;have e2:CA.length≤2147483652:=by rw[b3,List.length_append];have:=f0.out;simp;omega
 have e6:Hid (CB.length≤3221225476):=by show _≤_;rw[b0,List.length_append];omega
 have a2:∀w:World,(Op.stringOp .add ⟨#[47,47]⟩ (ah (kY m k))).run prog w=.ok (.string (ah CA)) w:=fun w=>by rw[b3];exact iY ⟨#[47,47]⟩ _ w (by rw[ak];have:=f0.out;show 2+_≤_;omega)
 have a3:∀w:World,(Op.stringOp .add (ah CA) i).run prog w=.ok (.string (ah CB)) w:=fun w=>by rw[b0];exact iY _ i w (by rw[ak];omega)
 have f1:Hid (CB=[47,47]++kY m k++i.data.toList):=by show _=_;rw[b0,b3]
 clear b3 b0 e2;have e4:Hid ((qC B D l).length≤1073741824):=by show _≤_;unfold qC;split<;>omega
 have a1:∀w:World,(Op.stringOp .add d ⟨#[58]⟩).run prog w=.ok (.string (ah (d.data.toList++[58]))) w:=fun w=>iY d ⟨#[58]⟩ w (by show d.size+1≤_;omega);obtain⟨QL,a8⟩:∃X,X=[63]++f.data.toList:=⟨_,rfl⟩;have a5:∀w:World,(Op.stringOp .add ⟨#[63]⟩ f).run prog w=.ok (.string (ah QL)) w:=fun w=>by rw[a8];exact iY ⟨#[63]⟩ f w (by show 1+f.size≤_;omega)
 have e3:Hid (QL.length≤1073741825):=by show _≤_;rw[a8,List.length_append];simp;omega
 have g9:=hid a8;clear a8;clear g6 g5 g4 d8 hn;have HR:=hid hR;have h1:=hid hl;have HT:=hid hT;clear hR hl hT;unfold maxLen at g7;go_enter func18,ntmps18;go_upto_region 1 with(fail)
 generalize hw1:w.alloc _=w1;have g8:Below w.heap.size w w1:=by rw[←hw1];exact(Below.refl _ _).alloc (Nat.le_refl _) _
 have G:w1.heap.size=w.heap.size+1:=by rw[←hw1];simp
 have f2:Hid (Box w1 w.heap.size #[.string d,.string m,.string k,.string i,.bool b4,.int .i64 c,.bool B,.string D,.slice A n F,.bool b9,.bool V,.string f,.string O]):=by
  show _=_;rw[←hw1];exact heap_alloc_new w _
 clear hw1;go_upto_region 2 with(fail)
 have f7:Hid (FY (w.heap.size+1) (w.heap.size+1) [] (w1.alloc (.cells #[.pointer none,.slice none 0 0] 73))):=by
  have h:=Lib.fresh_isBuilder 73 5 w1;rw[G]at h;exact h
 have T:Below (w.heap.size+1) w1 (w1.alloc (.cells #[.pointer none,.slice none 0 0] 73)):=(Below.refl _ _).alloc (by rw[G];exact Nat.le_refl _) _;have b7:(w1.alloc (.cells #[.pointer none,.slice none 0 0] 73)).heap.size=w.heap.size+2:=by simp[G]
 generalize hw2:w1.alloc _=w2 at f7 T b7⊢;clear hw2;have C:Below w.heap.size w w2:=g8.trans (T.mono (by omega));have a:=f2.below T (by omega);have a0:=hid a;obtain⟨c0,c1,c2,c3,c4,c5,c6,c7,c8,c9,z,v,s⟩:=jT a;clear a;have d7:w.heap.size+1≤w2.heap.size:=by omega
 clear G b7;go_wp2_with fail
 refine(nP _ _ _ _ _ f7 (by rw[ak];have:=W.out;simp at this⊢;omega) d7).mono ?_;rintro e w3 ⟨rfl,f6,j⟩;have N:Hid (FY (w.heap.size+1) (w.heap.size+1) (d.data.toList++[58]) w3):=f6;have d6:w.heap.size+1≤w3.heap.size:=by have:=j.size;omega
 have a:=a0.below j (by omega:w.heap.size<w.heap.size+1);have Z:=hid a;clear c0 c1 c2 c3 c4 c5 c6 c7 c8 c9 z v s;obtain⟨c0,c1,c2,c3,c4,c5,c6,c7,c8,c9,z,v,s⟩:=jT a;clear a
 go_upto_if 9 with(fail)
 go_cut [] (fun wx=>Hid (FY (w.heap.size+1) (w.heap.size+1) (d.data.toList++[58]++qp m k i b4 c B l) wx)∧Hid (Below (w.heap.size+1) w2 wx))
 case first=>
  cases b4 with
  | true=>
   go_wp2_with fail
   clear c0 c1 c2 c3 c4 c5 c6 c7 c8 c9 z v s;refine aV (by kernel_rfl) 6 [is (.agg #[.string d,.string m,.string k,.string i,.bool true,.int .i64 c,.bool B,.string D,.slice A n F,.bool b9,.bool V,.string f,.string O]),is (.string (ah (kY m k))),is (.string (ah CA)),pg w.heap.size 3,is (.string i),is (.string (ah CB))] [[],[0],[0,1],[],[3],[0,1,2,3,4],[0,1,2,3,4,5]] (by kernel_rfl) ?_ ?_
   ·refine⟨?_,?_,?_,?_,?_,?_,trivial⟩;all_goals(intro t wq E hh K hK;simp only[iD,oP,Act.put,Nat.reduceAdd,Nat.reduceEqDiff,reduceIte]at hh hK⊢;(try simp only[hh]at hK⊢);clear hh)
    ·have a:=Z.below E (by omega);obtain⟨c0,c1,c2,c3,c4,c5,c6,c7,c8,c9,z,v,s⟩:=jT a;clear a;go_simp;exact hK _ _ aT rfl
    ·go_simp;refine(Uj d m k i true c B D A n F l b9 V f O _ d2 d1).mono ?_;rintro e w5 ⟨rfl,q⟩;exact hK _ _ q rfl
    ·have d9:=a2 wq;go_simp;exact hK _ _ aT rfl
    ·go_simp;exact hK _ _ aT rfl
    ·have a:=Z.below E (by omega);obtain⟨c0,c1,c2,c3,c4,c5,c6,c7,c8,c9,z,v,s⟩:=jT a;clear a;go_simp;exact hK _ _ aT rfl
    ·have d9:=a3 wq;go_simp;exact hK _ _ aT rfl
   ·intro t wq E hh;have f5:=aO hh 5 (by decide);simp only[pick]at f5;replace f5:t 5=(.string (ah CB)):=f5;clear hh;simp only[iD,oP,Act.put,Nat.reduceAdd,Nat.reduceEqDiff,reduceIte];simp only[f5];have f4:=N.out;go_wp2_with fail
    refine(nP _ _ _ _ _ (xK N E) (by rw[ak];have:=W.out;have:=e6.out;omega) (by have:=E.size;omega)).mono ?_;rintro e w5 ⟨rfl,a7,q⟩;rw[jU]at a7;have H:=j.trans ((E.mono (by omega)).trans q);have a:=Z.below ((E.mono (by omega)).trans q) (by omega:w.heap.size<w.heap.size+1);obtain⟨c0,c1,c2,c3,c4,c5,c6,c7,c8,c9,z,v,s⟩:=jT a;clear a;have d4:w.heap.size+1≤w5.heap.size:=by have:=H.size;omega
    by_cases hp:c= -1
    ·have q1:(c== -1)=true:=by simpa using hp
     have q2:(c != -1)=false:=by simpa using hp
     have HP:Hid (jV c=[]):=if_pos hp;clear hp;go_wp2
     go_meet
     refine⟨?_,H⟩;have e:d.data.toList++[58]++qp m k i true c B l=d.data.toList++[58]++CB:=by unfold qp;rw[if_pos rfl,HP.out,List.append_nil,f1.out]
     show FY _ _ _ _;rw[e];exact a7
    ·have q1:(c== -1)=false:=by simpa using hp
     have q2:(c != -1)=true:=by simpa using hp
     have HP:Hid (jV c=58::Lib.itoa c):=if_neg hp;clear hp;obtain⟨IT,a9⟩:∃X,X=[58]++Lib.itoa c:=⟨_,rfl⟩;have a4:∀w:World,(Op.stringOp .add ⟨#[58]⟩ (ah (Lib.itoa c))).run prog w=.ok (.string (ah IT)) w:=fun w=>by rw[a9];exact iY ⟨#[58]⟩ _ w (by rw[ak];have:=e9.out;show 1+_≤_;omega)
     have e7:Hid (IT.length≤21):=by show _≤_;rw[a9,List.length_append];have:=e9.out;simp;omega
     have e8:=hid a9;clear a9;go_wp2_with fail
     refine(UW c hz d0 _ (HT.below (C.trans (H.mono (by omega))))).mono ?_;rintro e w6 ⟨rfl,Q⟩;go_wp2_with fail
     refine(nP _ _ _ _ _ (xK a7 Q) (by rw[ak,List.length_append];have:=e7.out;have:=W.out;have:=e6.out;omega) (by have:=Q.size;omega)).mono ?_;rintro e w7 ⟨rfl,a6,L⟩;rw[jU]at a6;go_wp2
     go_meet
     refine⟨?_,H.trans ((Q.mono d4).trans L)⟩;have e:d.data.toList++[58]++qp m k i true c B l=d.data.toList++[58]++CB++IT:=by unfold qp;rw[if_pos rfl,HP.out,f1.out,e8.out];simp
     show FY _ _ _ _;rw[e];exact a6
  | false=>
   cases B with
   |true=>
    go_wp2
    go_meet
    refine⟨?_,j⟩;show FY _ _ (_++[]) _;rw[List.append_nil];exact N
   | false=>
    by_cases h1n:1<n
    ·obtain⟨x,y,r,d3⟩:∃x y r,l=x::y::r:=by
      have:=HN.out
      match l,this with
      |x::y::r,_=>exact⟨x,y,r,rfl⟩
      |[_],h=>simp at h;omega
      |[],h=>simp at h;omega
     have e1:=HR.below (C.trans (j.mono (by omega)));obtain⟨g,h5,rfl,hg,P⟩:=e1.spot (by omega);have hc:=P 0 (by rw[List.length_map,HN.out];omega);have e0:(l.map Value.string)[0]'(by rw[List.length_map,HN.out];omega)=.string x:=by simp[d3]
     rw[e0,Nat.add_zero]at hc;have HD:Hid (rM false l=decide (x.data.toList=[])):=by show _=_;rw[d3];rfl
     clear e1 P e0 d3;by_cases hx:x.data.toList=[]
     ·have q1:x.toList=[]:=by rw[tl];exact hx
      have Y:Hid (rM false l=true):=HD.trans (decide_eq_true hx);clear hx;go_wp2_with fail
      refine(nP _ _ _ _ _ N (by have:=W.out;show _+2≤_;omega) d6).mono ?_;rintro e w5 ⟨rfl,a7,q⟩;go_wp2
      go_meet
      refine⟨?_,j.trans q⟩;have e:d.data.toList++[58]++qp m k i false c false l=d.data.toList++[58]++[47,46]:=by unfold qp;rw[if_neg (by decide),if_pos Y.out]
      show FY _ _ _ _;rw[e];exact a7
     ·have q1:(x.toList==[])=false:=by rw[tl];simpa using hx
      have h4:x.toList.isEmpty=false:=by rw[tl];simpa using hx
      have Y:Hid (¬rM false l=true):=by show ¬_;rw[HD.out];simpa using hx
      clear hx;go_wp2
      go_meet
      refine⟨?_,j⟩;have e:d.data.toList++[58]++qp m k i false c false l=d.data.toList++[58]:=by unfold qp;rw[if_neg (by decide),if_neg Y.out,List.append_nil]
      show FY _ _ _ _;rw[e];exact N
    ·have Y:Hid (¬rM false l=true):=by
      have:=HN.out
      match l,this with
      |x::y::r,h=>simp at h;omega
      |[_],h=>simp[rM,Hid]
      |[],h=>simp[rM,Hid]
     go_wp2
     go_meet
     refine⟨?_,j⟩;have e:d.data.toList++[58]++qp m k i false c false l=d.data.toList++[58]:=by unfold qp;rw[if_neg (by decide),if_neg Y.out,List.append_nil]
     show FY _ _ _ _;rw[e];exact N
 case rest=>
 obtain⟨f4,J⟩:=hcut;clear c0 c1 c2 c3 c4 c5 c6 c7 c8 c9 z v s;have a:=a0.below J (by omega:w.heap.size<w.heap.size+1);obtain⟨c0,c1,c2,c3,c4,c5,c6,c7,c8,c9,z,v,s⟩:=jT a;clear a;have d5:w.heap.size+1≤wc.heap.size:=by have:=J.size;omega
 go_wp2_with fail
 refine(Vw d m k i b4 c B D A n F l b9 V f O _ (HR.below (C.trans (J.mono (by omega)))) g1 (by unfold maxLen;omega) f8 h1).mono ?_;rintro e w5 ⟨rfl,q⟩;go_wp2_with fail
 have g2:=h0.out;have g3:=W.out;have g0:=e4.out;have e5:Hid ((d.data.toList++[58]++qp m k i b4 c B l).length≤5368709121):=by show _≤_;rw[List.length_append];omega
 have h2:Hid ((d.data.toList++[58]++qp m k i b4 c B l++qC B D l).length≤6442450945):=by show _≤_;rw[List.length_append];have:=e5.out;omega
 clear g2 g3 g0;refine(nP _ _ _ _ _ (xK f4 q) (by rw[ak];have:=e5.out;have:=e4.out;omega) (by have:=q.size;omega)).mono ?_;rintro e w6 ⟨rfl,f3,Q⟩;rw[jU]at f3;have I:=J.trans ((q.mono d5).trans Q);have b5:w.heap.size+1≤w6.heap.size:=by have:=I.size;omega
 clear c0 c1 c2 c3 c4 c5 c6 c7 c8 c9 z v s;have a:=a0.below I (by omega:w.heap.size<w.heap.size+1);obtain⟨c0,c1,c2,c3,c4,c5,c6,c7,c8,c9,z,v,s⟩:=jT a;clear a;have b8:=hid f3;cases b9 with
 |false=>
  go_wp2_with fail
  refine(uX _ _ _ _ b8 b5).mono ?_;rintro e w7 ⟨rfl,L⟩;go_wp2;go_ret;refine⟨?_,C.trans ((I.trans L).mono (by omega))⟩;have e:vF d m k i b4 c B D l false f=d.data.toList++[58]++qp m k i b4 c B l++qC B D l:=by unfold vF;rw[if_neg (by decide),List.append_nil]
  refine congrArg (fun X=>Ending.returned (.string (ah X))) ?_;rw[e];simp
 |true=>
  go_wp2_with fail
  refine(nP _ _ _ _ _ b8 (by rw[ak];have:=h2.out;have:=e3.out;omega) b5).mono ?_;rintro e w7 ⟨rfl,a6,L⟩;rw[jU]at a6;go_wp2_with fail
  refine(uX _ _ _ _ a6 (by have:=L.size;omega)).mono ?_;rintro e w8 ⟨rfl,hb8⟩;go_wp2;go_ret;refine⟨?_,C.trans (((I.trans L).trans hb8).mono (by omega))⟩;have e:vF d m k i b4 c B D l true f=d.data.toList++[58]++qp m k i b4 c B l++qC B D l++QL:=by unfold vF;rw[if_pos rfl,g9.out];rfl
  refine congrArg (fun X=>Ending.returned (.string (ah X))) ?_;rw[e];simp
theorem D7 (q m k j:ByteArray) (b4:Bool) (f:Int) (D:Bool) (i:ByteArray) (A:Option Addr) (n c:Nat) (l:List ByteArray) (C h:Bool) (a d:ByteArray) (w:World) (I:dV w A n (l.map Value.string)) (z:n≤c) (B:c≤maxLen) (y:q.size≤1073741824) (x:m.size≤1073741824) (v:k.size≤1073741824) (t:j.size≤1073741824) (s:i.size≤1073741824) (g:a.size≤1073741824) (E:d.size≤1073741824) (F: -9223372036854775808≤f) (r:f≤9223372036854775807) (G:(aF l).length≤1073741824) (H:Tab.Pow w):
  Calls prog 18 #[.agg #[.string q,.string m,.string k,.string j,.bool b4,.int .i64 f,.bool D,.string i,.slice A n c,.bool C,.bool h,.string a,.string d]] w fun e w'=>e=.returned (.string (ah (vF q m k j b4 f D i l C a)))∧Below w.heap.size w w':=
 Uc q m k j b4 f D i A n c l C h a d w I z B y x v t s g F r G H
theorem Ud (e i g f:ByteArray) (b4:Bool) (c:Int) (v:Bool) (d:ByteArray) (A:Option Addr) (n C:Nat) (l:List ByteArray) (D E:Bool) (a h:ByteArray) (y:e.size≤1073741824) (q:i.size≤1073741824) (m:g.size≤1073741824) (k:f.size≤1073741824) (x:d.size≤1073741824) (s:a.size≤1073741824) (r:h.size≤1073741824) (w: -9223372036854775808≤c) (j:c≤9223372036854775807) (F:(aF l).length≤1073741824):(vF e i g f b4 c v d l D a).length≤8589934592:=by
 have B:e.data.toList.length=e.size:=Array.length_toList;have z:d.data.toList.length=d.size:=Array.length_toList;have t:a.data.toList.length=a.size:=Array.length_toList;have:=P7 i g f b4 c v l q m k w j;unfold vF qC;rw[List.length_append,List.length_append,List.length_append,List.length_append];split<;>split<;>simp<;>omega
theorem nM (q m k j:ByteArray) (b4:Bool) (h:Int) (v:Bool) (i:ByteArray) (A:Option Addr) (n d:Nat) (l:List ByteArray) (s G:Bool) (c a:ByteArray) (w:World) (hR:dV w A n (l.map Value.string)) (Z:n≤d) (a3:d≤maxLen) (Q:q.size≤1073741824) (P:m.size≤1073741824) (O:k.size≤1073741824) (N:j.size≤1073741824) (L:i.size≤1073741824) (y:c.size≤1073741824) (x:a.size≤1073741824) (hz: -9223372036854775808≤h) (J:h≤9223372036854775807) (hl:(aF l).length≤1073741824) (hT:Tab.Pow w):
  Calls prog 9 #[.agg #[.string q,.string m,.string k,.string j,.bool b4,.int .i64 h,.bool v,.string i,.slice A n d,.bool s,.bool G,.string c,.string a]] w fun e w'=>e=.returned (.string (ah (BH q m k j b4 h v i l s G c a)))∧Below w.heap.size w w':=by
 have I:=a3;unfold maxLen at a3;have a0:a.data.toList.length=a.size:=Array.length_toList;obtain⟨BL,W⟩:∃X,X=vF q m k j b4 h v i l s c:=⟨_,rfl⟩;have a7:BL.length≤8589934592:=by rw[W];exact Ud q m k j b4 h v i A n d l s G c a Q P O N L y x hz J hl
 have a6:=hid W;obtain⟨BM,C⟩:∃X,X=BL++[35]:=⟨_,rfl⟩;obtain⟨Y,V⟩:∃X,X=BM++a.data.toList:=⟨_,rfl⟩;have a1:∀w:World,(Op.stringOp .add (ah BL) ⟨#[35]⟩).run prog w=.ok (.string (ah BM)) w:=fun w=>by rw[C];exact iY _ ⟨#[35]⟩ w (by rw[ak];show _+1≤_;omega)
 have a2:∀w:World,(Op.stringOp .add (ah BM) a).run prog w=.ok (.string (ah Y)) w:=fun w=>by rw[V];exact iY _ a w (by rw[ak,C,List.length_append];simp;omega)
 have a8:Hid (Y=BL++[35]++a.data.toList):=by show _=_;rw[V,C]
 clear W C V a0 a7;have HR:=hid hR;have a5:=hid hl;have HT:=hid hT;clear hR hl hT;cases G with
 | true=>
  go_enter func9,ntmps9;go_upto_region 1 with(fail)
  generalize hw1:w.alloc _=w1;have g:Below w.heap.size w w1:=by rw[←hw1];exact(Below.refl _ _).alloc (Nat.le_refl _) _
  have H:w.heap.size<w1.heap.size:=by rw[←hw1];simp
  have f:Hid (Box w1 w.heap.size #[.string q,.string m,.string k,.string j,.bool b4,.int .i64 h,.bool v,.string i,.slice A n d,.bool s,.bool true,.string c,.string a]):=by
   show _=_;rw[←hw1];exact heap_alloc_new w _
  clear hw1;obtain⟨c0,c1,c2,c3,c4,c5,c6,c7,c8,c9,F,E,D⟩:=jT f;go_wp2_with fail
  clear c0 c1 c2 c3 c4 c5 c6 c7 c8 c9 F E D;refine dF (by kernel_rfl) [is (.agg #[.string q,.string m,.string k,.string j,.bool b4,.int .i64 h,.bool v,.string i,.slice A n d,.bool s,.bool true,.string c,.string a]),is (.string (ah BL)),is (.string (ah BM)),pg w.heap.size 12,is (.string a),is (.string (ah Y)),is (.string (ah Y))] [[],[0],[1],[],[3],[2,4],[5]] (by kernel_rfl) ?_ ?_
  ·refine⟨?_,?_,?_,?_,?_,?_,?_,trivial⟩;all_goals(intro t wq r hh K B;simp only[iD,Act.put,Nat.reduceAdd,Nat.reduceEqDiff,reduceIte]at hh B⊢;(try simp only[hh]at B⊢);clear hh)
   ·have z:=f.below r H;obtain⟨c0,c1,c2,c3,c4,c5,c6,c7,c8,c9,F,E,D⟩:=jT z;clear z;go_simp;exact B _ _ aT rfl
   ·go_simp;refine(D7 q m k j b4 h v i A n d l s true c a _ (HR.below (g.trans (r.mono (by omega)))) Z I Q P O N L y x hz J a5 ((HT.below (g.trans (r.mono (by omega)))))).mono ?_;rintro e w5 ⟨rfl,T⟩;rw[←a6.out];exact B _ _ T rfl
   ·have a4:=a1 wq;go_simp;exact B _ _ aT rfl
   ·go_simp;exact B _ _ aT rfl
   ·have z:=f.below r H;obtain⟨c0,c1,c2,c3,c4,c5,c6,c7,c8,c9,F,E,D⟩:=jT z;clear z;go_simp;exact B _ _ aT rfl
   ·have a4:=a2 wq;go_simp;exact B _ _ aT rfl
   ·go_simp;exact B _ _ aT rfl
  ·intro t wq r hh;have f6:=aO hh 6 (by decide);simp only[pick]at f6;replace f6:t 6=(.string (ah Y)):=f6;clear hh;simp only[iD,Act.put,Nat.reduceAdd,Nat.reduceEqDiff,reduceIte];simp only[f6];go_wp2;go_ret;refine⟨?_,g.trans (r.mono (by omega))⟩;have e:BH q m k j b4 h v i l s true c a=Y:=by unfold BH;rw[if_pos rfl,a8.out,←a6.out];simp
   exact congrArg (fun X=>Ending.returned (.string (ah X))) e.symm
 |false=>
  clear a1 a2;go_enter func9,ntmps9;go_upto_region 1 with(fail)
  generalize hw1:w.alloc _=w1;have g:Below w.heap.size w w1:=by rw[←hw1];exact(Below.refl _ _).alloc (Nat.le_refl _) _
  have f:Hid (Box w1 w.heap.size #[.string q,.string m,.string k,.string j,.bool b4,.int .i64 h,.bool v,.string i,.slice A n d,.bool s,.bool false,.string c,.string a]):=by
   show _=_;rw[←hw1];exact heap_alloc_new w _
  clear hw1;obtain⟨c0,c1,c2,c3,c4,c5,c6,c7,c8,c9,F,E,D⟩:=jT f;go_wp2_with fail
  refine(D7 q m k j b4 h v i A n d l s false c a _ (HR.below g) Z I Q P O N L y x hz J a5 (HT.below g)).mono ?_;rintro e w5 ⟨rfl,T⟩;go_wp2;go_ret;refine⟨?_,bD g T⟩;have e:BH q m k j b4 h v i l s false c a=vF q m k j b4 h v i l s c:=by unfold BH;rw[if_neg (by decide),List.append_nil]
  exact congrArg (fun X=>Ending.returned (.string (ah X))) e.symm
end QE
namespace Ulw
open Go.RowKit Base QE uf aJ vP mY zf JL Iq TB o8 TD
structure Env (w:World):Prop where
 pow:Tab.Pow w
 lad:oZ w
 max:Max w
 SX:yg w
theorem Env.below {w w':World} (h:Env w) (a:Below w.heap.size w w'):Env w':=⟨cZ h.pow a,h.lad.below a,h.max.below a,h.SX.below a⟩
structure Pt (w:World) (u:U) (A:Option Addr) (n c:Nat):Prop where
 aF:iC w u A n c
theorem Pt.below {w w':World} {u:U} {A:Option Addr} {n c:Nat} (h:Pt w u A n c) (a:Below w.heap.size w w'):Pt w' u A n c:=⟨vP.iC.below h.aF a⟩
theorem Pt.len {w:World} {u:U} {A:Option Addr} {n c N:Nat} (h:Pt w u A n c) (hf:Fit u N):n≤N:=by
 have d:(u.aF.map Value.string).length=n:=h.aF.1.1;rw[List.length_map]at d;have a:=hf.all;have e:=dL.nH u.aF;unfold o8.pl at a;omega
theorem dl (s:ByteArray):s.data.toList.length=s.size:=Array.length_toList
theorem ER {T:ByteArray} {u:U} (d:aJ.url T.data.toList none=some u) (a:T.size≤65536) (w:World) (E:Env w):Calls prog 5 #[.string T,.pointer none] w fun e w'=>∃A' n' c',e=.returned (.tuple #[.agg #[.string (ah u.au),.string (ah u.bY),.string (ah u.bZ),.string (ah u.aU),.bool u.hh,.int .i64 u.port,.bool u.dK,.string (ah u.txt),.slice A' n' c',.bool u.hq,.bool u.hf,.string (ah u.bT),.string (ah u.eY)],.int .i64 0])∧Pt w' u A' n' c'∧Below w.heap.size w w':=by
 have h:=EP T.data.toList w (by rw[dl];exact a) E.lad E.pow E.max E.SX;rw[bF,d]at h;exact h.mono fun e w' ⟨h1,A,n,c,h2,h3⟩=>⟨A,n,c,h2,⟨h3.aF⟩,h1⟩
theorem Og {T:ByteArray} {u:U} (a:u=U0) (f:aJ.url T.data.toList none=none) (d:T.size≤65536) (w:World) (E:Env w):Calls prog 5 #[.string T,.pointer none] w fun e w'=>∃A' n' c',e=.returned (.tuple #[.agg #[.string (ah u.au),.string (ah u.bY),.string (ah u.bZ),.string (ah u.aU),.bool u.hh,.int .i64 u.port,.bool u.dK,.string (ah u.txt),.slice A' n' c',.bool u.hq,.bool u.hf,.string (ah u.bT),.string (ah u.eY)],.int .i64 2])∧Pt w' u A' n' c'∧Below w.heap.size w w':=by
 subst a;have h:=EP T.data.toList w (by rw[dl];exact d) E.lad E.pow E.max E.SX;rw[bF,f]at h;exact h.mono fun e w' ⟨h1,A,n,c,h2,h3⟩=>⟨A,n,c,h2,⟨h3.aF⟩,h1⟩
theorem CP {T:ByteArray} {b u:U} (d:aJ.url T.data.toList (some b)=some u) (a:T.size≤65536) (gb:Nat) (A:Option Addr) (n c:Nat) (f:n≤100000) (w:World) (i:UB w gb b (.slice A n c)) (g:Pt w b A n c) (E:Env w):Calls prog 5 #[.string T,.pointer (some ⟨gb,0,none⟩)] w fun e w'=>∃A' n' c',e=.returned (.tuple #[.agg #[.string (ah u.au),.string (ah u.bY),.string (ah u.bZ),.string (ah u.aU),.bool u.hh,.int .i64 u.port,.bool u.dK,.string (ah u.txt),.slice A' n' c',.bool u.hq,.bool u.hf,.string (ah u.bT),.string (ah u.eY)],.int .i64 0])∧Pt w' u A' n' c'∧Below w.heap.size w w':=by
 have h:=yR T.data.toList b gb A n c w (by rw[dl];exact a) f i g.aF E.lad E.pow E.max E.SX;rw[bF,d]at h;exact h.mono fun e w' ⟨h1,A,n,c,h2,h3⟩=>⟨A,n,c,h2,⟨h3.aF⟩,h1⟩
theorem KY {T:ByteArray} {b u:U} (a:u=U0) (f:aJ.url T.data.toList (some b)=none) (d:T.size≤65536) (gb:Nat) (A:Option Addr) (n c:Nat) (g:n≤100000) (w:World) (j:UB w gb b (.slice A n c)) (i:Pt w b A n c) (E:Env w):Calls prog 5 #[.string T,.pointer (some ⟨gb,0,none⟩)] w fun e w'=>∃A' n' c',e=.returned (.tuple #[.agg #[.string (ah u.au),.string (ah u.bY),.string (ah u.bZ),.string (ah u.aU),.bool u.hh,.int .i64 u.port,.bool u.dK,.string (ah u.txt),.slice A' n' c',.bool u.hq,.bool u.hf,.string (ah u.bT),.string (ah u.eY)],.int .i64 2])∧Pt w' u A' n' c'∧Below w.heap.size w w':=by
 subst a;have h:=yR T.data.toList b gb A n c w (by rw[dl];exact d) g j i.aF E.lad E.pow E.max E.SX;rw[bF,f]at h;exact h.mono fun e w' ⟨h1,A,n,c,h2,h3⟩=>⟨A,n,c,h2,⟨h3.aF⟩,h1⟩
theorem G6 {u:U} {N:Nat} (h:Fit u N) (c:N≤1073741824):(ah u.au).size≤1073741824∧(ah u.bY).size≤1073741824∧(ah u.bZ).size≤1073741824∧(ah u.aU).size≤1073741824∧(ah u.txt).size≤1073741824∧(ah u.bT).size≤1073741824∧(ah u.eY).size≤1073741824∧(dL.aF u.aF).length≤1073741824:=by
 have a:=h.all;unfold o8.pl at a;simp only[ak];omega
theorem Yu {u:U} {N:Nat} (d:Fit u N) (f:N≤1073741824) (A:Option Addr) (n c:Nat) (w:World) (a:Pt w u A n c) (E:Env w):Calls prog 9 #[.agg #[.string (ah u.au),.string (ah u.bY),.string (ah u.bZ),.string (ah u.aU),.bool u.hh,.int .i64 u.port,.bool u.dK,.string (ah u.txt),.slice A n c,.bool u.hq,.bool u.hf,.string (ah u.bT),.string (ah u.eY)]] w fun e w'=>e=.returned (.string (ah (nK u)))∧Below w.heap.size w w':=by
 obtain⟨q,m,l,k,j,i,h,g⟩:=G6 d f;exact nM _ _ _ _ _ _ _ _ A n c u.aF _ _ _ _ w a.aF.1 a.aF.2.1 a.aF.2.2 q m l k j i h (by have:=d.lo;omega) (by have:=d.hi;omega) g E.pow
end Ulw
namespace acE
open Go.RowKit Base bf aJ vP yH o8 TD Ulw
def T1:List UInt8:=[102,105,108,101,58,47,47,47,68,58,47,121]
def T2:List UInt8:=[67,124,47,120]
def Zu:Option U:=aJ.url T1 none
def Zv:Option U:=Zu.bind fun b=>aJ.url T2 (some b)
theorem acY:Zv.map nK=some [102,105,108,101,58,47,47,47,67,58,47,120]:=by decide+kernel
theorem acZ:∃b u,aJ.url T1 none=some b∧aJ.url T2 (some b)=some u∧nK u=[102,105,108,101,58,47,47,47,67,58,47,120]:=by
 have h:=acY;unfold Zv Zu at h;cases e1:aJ.url T1 none with
 |none=>rw[e1]at h;cases h
 |some b=>
  rw[e1]at h;have a:(aJ.url T2 (some b)).map nK=some [102,105,108,101,58,47,47,47,67,58,47,120]:=h;cases e2:aJ.url T2 (some b)with
  |none=>rw[e2]at a;cases a
  |some u=>
   rw[e2]at a;exact⟨b,u,rfl,e2,by simpa using a⟩
theorem QK (w:World) (hE:Env w):Calls prog 4 #[] w fun e w'=>e=.returned (.bool true)∧Below w.heap.size w w':=by
 obtain⟨b,u,H,G,h3⟩:=acZ;have I:=JC (M:=0) H (fun _ e=>by cases e);have f2:=JC (M:=0+15*T1.length+300) G (fun _ e=>by cases e;exact I);have O:=hid I;have N:Hid (∀w,Env w→Calls prog 5 #[.string ⟨#[102,105,108,101,58,47,47,47,68,58,47,121]⟩,.pointer none] w fun e w'=>∃A' n' c',e=.returned (.tuple #[.agg #[.string (ah b.au),.string (ah b.bY),.string (ah b.bZ),.string (ah b.aU),.bool b.hh,.int .i64 b.port,.bool b.dK,.string (ah b.txt),.slice A' n' c',.bool b.hq,.bool b.hf,.string (ah b.bT),.string (ah b.eY)],.int .i64 0])∧Pt w' b A' n' c'∧Below w.heap.size w w'):=fun w E=>ER (T:=⟨#[102,105,108,101,58,47,47,47,68,58,47,121]⟩) H (by decide) w E;have L:Hid (∀(gb:Nat) (A:Option Addr) (n c:Nat),n≤100000→∀w,UB w gb b (.slice A n c)→Pt w b A n c→Env w→Calls prog 5 #[.string ⟨#[67,124,47,120]⟩,.pointer (some ⟨gb,0,none⟩)] w fun e w'=>∃A' n' c',e=.returned (.tuple #[.agg #[.string (ah u.au),.string (ah u.bY),.string (ah u.bZ),.string (ah u.aU),.bool u.hh,.int .i64 u.port,.bool u.dK,.string (ah u.txt),.slice A' n' c',.bool u.hq,.bool u.hf,.string (ah u.bT),.string (ah u.eY)],.int .i64 0])∧Pt w' u A' n' c'∧Below w.heap.size w w'):=fun gb A n c hn w hB hP E=>CP (T:=⟨#[67,124,47,120]⟩) G (by decide) gb A n c hn w hB hP E;have J:Hid (∀(A:Option Addr) (n c:Nat) (w:World),Pt w u A n c→Env w→Calls prog 9 #[.agg #[.string (ah u.au),.string (ah u.bY),.string (ah u.bZ),.string (ah u.aU),.bool u.hh,.int .i64 u.port,.bool u.dK,.string (ah u.txt),.slice A n c,.bool u.hq,.bool u.hf,.string (ah u.bT),.string (ah u.eY)]] w fun e w'=>e=.returned (.string (ah [102,105,108,101,58,47,47,47,67,58,47,120]))∧Below w.heap.size w w'):=fun A n c w hP E=>by
  have h:=Yu f2 (by decide) A n c w hP E;rw[h3]at h;exact h
 have q1:(ah [102,105,108,101,58,47,47,47,67,58,47,120]).toList=[102,105,108,101,58,47,47,47,67,58,47,120]:=bG _;have HE:=hid hE;clear H G h3 I f2 hE;go_enter func4,ntmps4;go_wp2_with fail
 refine(N _ HE).mono ?_;rintro e r ⟨A1,n1,c1,rfl,f,a⟩;have W:=hid a;have Z:=hid (HE.below a);clear a;have T1:=hid (f);clear f;go_upto_region 2 with(fail)
 generalize hwa:World.alloc _ _=v2;have d:UB v2 (r.heap.size) b (.slice A1 n1 c1):=by rw[←hwa];exact heap_alloc_new _ _
 have a:Below r.heap.size r v2:=by rw[←hwa];exact(Below.refl _ _).alloc (Nat.le_refl _) _
 have X1:=hid d;clear hwa d;have V:=hid (bD W a);have m:=hid (Z.below a);have g:=hid (T1.below a);clear a;go_wp2_with fail
 refine(L _ _ _ _ (g.len O|>fun h=>Nat.le_trans h (by decide)) _ X1 g m).mono ?_;rintro e q ⟨A2,n2,c2,rfl,f,a⟩;have Q:=hid (bD V a);have Y:=hid (m.below a);clear a;have T2:=hid (f);clear f;go_upto_region 3 with(fail)
 generalize hwa:World.alloc _ _=v4;have d:UB v4 (q.heap.size) u (.slice A2 n2 c2):=by rw[←hwa];exact heap_alloc_new _ _
 have a:Below q.heap.size q v4:=by rw[←hwa];exact(Below.refl _ _).alloc (Nat.le_refl _) _
 have X2:=hid d;clear hwa d;have P:=hid (bD Q a);have X:=hid (Y.below a);have l:=hid (T2.below a);clear a;obtain⟨F,D,C,B,z,y,x,v,t,s,k,j,i⟩:=X2.facts;go_wp2_with fail
 clear F D C B z y x v t s k j i;refine qy P (J _ _ _ _ l X) fun w5 HB5=>?_;go_wp2;go_ret;exact⟨rfl,HB5⟩
end acE
namespace aao
open Go.RowKit Base bf dL aan QF eH
theorem Jy (a b:Bool) (s t:ByteArray):txt a s=txt b t↔a=b∧(a=true→s.data.toList=t.data.toList):=by
 cases a<;>cases b<;>simp[txt]
theorem abj (a c:Bool) (e d:ByteArray) (l m:List ByteArray):spB a c e d l m=true↔a=c∧(if a then decide (e.data.toList=d.data.toList)else decide (l=m))=true:=by
 cases a<;>cases c<;>simp[spB]
theorem V4 (G F E D:ByteArray) (k:Bool) (B:Int) (l:Bool) (C:ByteArray) (aA:Option Addr) (an L:Nat) (X:List ByteArray) (j a:Bool) (i g x w v t:ByteArray) (A:Bool) (r:Int) (z:Bool) (s:ByteArray) (Z:Option Addr) (Y J:Nat) (bl:List ByteArray) (y f:Bool) (d c:ByteArray):decide (tH G F E D k B l C X j a i g=tH x w v t A r z s bl y f d c)=((decide (G.data.toList=x.data.toList)&&decide (F.data.toList=w.data.toList)&&decide (E.data.toList=v.data.toList)&&(k==A)&&(B==r)&&(l==z)&&(j==y)&&(a==f))&&((!k||decide (D.data.toList=t.data.toList))&&(!j||decide (i.data.toList=d.data.toList))&&(!a||decide (g.data.toList=c.data.toList)))&&(if l then decide (C.data.toList=s.data.toList)else decide (X=bl))):=by
 rw[Bool.eq_iff_iff,decide_eq_true_iff,same_iff G F E D k B l C aA an L X j a i g x w v t A r z s Z Y J bl y f d c,Jy,Jy,Jy,abj];simp only[Bool.and_eq_true,Bool.or_eq_true,Bool.not_eq_true',decide_eq_true_iff,beq_iff_eq];constructor
 ·rintro⟨W,V,T,P,⟨Q,I⟩,⟨O,n⟩,⟨N,H⟩,q,m⟩;refine⟨⟨⟨⟨⟨⟨⟨⟨⟨W,V⟩,T⟩,Q⟩,P⟩,O⟩,N⟩,q⟩,⟨?_,?_⟩,?_⟩,n⟩
  ·cases k<;>simp_all
  ·cases j<;>simp_all
  cases a<;>simp_all
 rintro⟨⟨⟨⟨⟨⟨⟨⟨⟨W,V⟩,T⟩,Q⟩,P⟩,O⟩,N⟩,q⟩,⟨I,H⟩,m⟩,n⟩;refine⟨W,V,T,P,⟨Q,fun h=>?_⟩,⟨O,n⟩,⟨N,fun h=>?_⟩,q,fun h=>?_⟩
 ·rcases I with e|e
  ·rw[e]at h;cases h
  exact e
 ·rcases H with e|e
  ·rw[e]at h;cases h
  exact e
 rcases m with e|e
 ·rw[e]at h;cases h
 exact e
theorem CS (G F D I:ByteArray) (f:Bool) (C:Int) (r:Bool) (L:ByteArray) (aA:Option Addr) (an q:Nat) (al:List ByteArray) (d c:Bool) (m l y x v H:ByteArray) (B:Bool) (s:Int) (A:Bool) (J:ByteArray) (bA:Option Addr) (bn n:Nat) (bl:List ByteArray) (z g:Bool) (k j:ByteArray) (w:World) (e5:dV w aA an (al.map Value.string)) (e3:an≤q) (e4:q≤maxLen) (e2:dV w bA bn (bl.map Value.string)) (e0:bn≤n) (e1:n≤maxLen):
  Calls prog 8 #[.agg #[.string G,.string F,.string D,.string I,.bool f,.int .i64 C,.bool r,.string L,.slice aA an q,.bool d,.bool c,.string m,.string l],.agg #[.string y,.string x,.string v,.string H,.bool B,.int .i64 s,.bool A,.string J,.slice bA bn n,.bool z,.bool g,.string k,.string j]] w fun e w'=>e=.returned (.bool (decide (tH G F D I f C r L al d c m l=tH y x v H B s A J bl z g k j)))∧Below w.heap.size w w':=by
 obtain⟨E,hE⟩:∃E,E=decide (tH G F D I f C r L al d c m l=tH y x v H B s A J bl z g k j):=⟨_,rfl⟩;rw[←hE];rw[V4 G F D I f C r L aA an q al d c m l y x v H B s A J bA bn n bl z g k j]at hE;have HR:=hid e5;have f3:=hid e2;clear e5 e2;obtain⟨T,b8⟩:∃o,(!(G.toList==y.toList))=o:=⟨_,rfl⟩;obtain⟨n1,b7⟩:∃o,(!(F.toList==x.toList))=o:=⟨_,rfl⟩;obtain⟨n2,b6⟩:∃o,(!(D.toList==v.toList))=o:=⟨_,rfl⟩;obtain⟨n3,b5⟩:∃o,(!(f==B))=o:=⟨_,rfl⟩;obtain⟨n4,b3⟩:∃o,(!(C==s))=o:=⟨_,rfl⟩;obtain⟨n5,b0⟩:∃o,(!(r==A))=o:=⟨_,rfl⟩;obtain⟨n6,a9⟩:∃o,(!(d==z))=o:=⟨_,rfl⟩;obtain⟨n7,a8⟩:∃o,(!(c==g))=o:=⟨_,rfl⟩;obtain⟨d1,c8⟩:∃o,o=(T||n1):=⟨_,rfl⟩;obtain⟨d2,c7⟩:∃o,o=(d1||n2):=⟨_,rfl⟩;obtain⟨d3,c6⟩:∃o,o=(d2||n3):=⟨_,rfl⟩;obtain⟨Z,c5⟩:∃o,o=(d3||n4):=⟨_,rfl⟩;obtain⟨Y,c4⟩:∃o,o=(Z||n5):=⟨_,rfl⟩;obtain⟨X,c3⟩:∃o,o=(Y||n6):=⟨_,rfl⟩;obtain⟨d7,c0⟩:∃o,o=(X||n7):=⟨_,rfl⟩;obtain⟨m3,b9⟩:∃o,(!(I.toList==H.toList))=o:=⟨_,rfl⟩;obtain⟨d8,O⟩:∃o,(!(m.toList==k.toList))=o:=⟨_,rfl⟩;obtain⟨d0,N⟩:∃o,(!(l.toList==j.toList))=o:=⟨_,rfl⟩;obtain⟨x1,a6⟩:∃o,o=(f&&m3):=⟨_,rfl⟩;obtain⟨y1,a5⟩:∃o,o=(d&&d8):=⟨_,rfl⟩;obtain⟨x2,a4⟩:∃o,o=(x1||y1):=⟨_,rfl⟩;obtain⟨z1,a3⟩:∃o,o=(c&&d0):=⟨_,rfl⟩;obtain⟨x3,a2⟩:∃o,o=(x2||z1):=⟨_,rfl⟩;obtain⟨o7,a7⟩:∃o,o=(L.toList==J.toList):=⟨_,rfl⟩;have a0:Hid (E=(!d7&& !x3&&(if r then o7 else decide (al=bl)))):=by
  show _=_;rw[hE,a2,a3,a4,a5,a6,c0,c3,c4,c5,c6,c7,c8,←b9,←O,←N,←b8,←b7,←b6,←b5,←b3,←b0,←a9,←a8,a7,qO,qO,qO,qO,qO,qO,qO];simp only[Bool.not_or,Bool.not_and,Bool.not_not]
 have g7:=hid b8;have g6:=hid b7;have g5:=hid b6;have g4:=hid b5;have g3:=hid b3;have g2:=hid b0;have g1:=hid a9;have g0:=hid a8;have h5:=hid c8;have h4:=hid c7;have h3:=hid c6;have h2:=hid c5;have h1:=hid c4;have h0:=hid c3;have g9:=hid c0;have g8:=hid b9;have f1:=hid O;have f0:=hid N;have f8:=hid a6;have f7:=hid a5;have f6:=hid a4;have f5:=hid a3;have f4:=hid a2;have f9:=hid a7.symm;clear hE a7 b8 b7 b6 b5 b3 b0 a9 a8 c8 c7 c6 c5 c4 c3 c0 b9 O N a6 a5 a4 a3 a2;have h6:Hid (Below w.heap.size w ((w.alloc (.cells #[.string G,.string F,.string D,.string I,.bool f,.int .i64 C,.bool r,.string L,.slice aA an q,.bool d,.bool c,.string m,.string l] 25)).alloc (.cells #[.string y,.string x,.string v,.string H,.bool B,.int .i64 s,.bool A,.string J,.slice bA bn n,.bool z,.bool g,.string k,.string j] 25))):=(((Below.refl _ _).alloc (Nat.le_refl _) _).alloc (by simp) _);go_enter func8,ntmps8;go_upto_region 1 with(fail)
 generalize hw0:(w.alloc _).alloc _=w0;have f2:Hid (Below w.heap.size w w0):=by rw[←hw0];exact h6
 have e9:Hid (Bx w0 w.heap.size #[.string G,.string F,.string D,.string I,.bool f,.int .i64 C,.bool r,.string L,.slice aA an q,.bool d,.bool c,.string m,.string l]):=by show _=_;rw[←hw0];exact(Below.block ((Below.refl (w.heap.size+1) _).alloc (by simp) _) w.heap.size (by omega)).trans (heap_alloc_new w _)
 have e8:Hid (Bx w0 (w.heap.size+1) #[.string y,.string x,.string v,.string H,.bool B,.int .i64 s,.bool A,.string J,.slice bA bn n,.bool z,.bool g,.string k,.string j]):=by show _=_;rw[←hw0];have:=heap_alloc_new (w.alloc (.cells #[.string G,.string F,.string D,.string I,.bool f,.int .i64 C,.bool r,.string L,.slice aA an q,.bool d,.bool c,.string m,.string l] 25)) (.cells #[.string y,.string x,.string v,.string H,.bool B,.int .i64 s,.bool A,.string J,.slice bA bn n,.bool z,.bool g,.string k,.string j] 25);simpa using this
 have P:w.heap.size+1<w0.heap.size:=by rw[←hw0];simp
 clear hw0;refine yE [pg w.heap.size 0,is (.string G),pg (w.heap.size+1) 0,is (.string y),is (.bool T),is (.bool T),mX (!T) (pg w.heap.size 1),mX (!T) (is (.string F)),mX (!T) (pg (w.heap.size+1) 1),mX (!T) (is (.string x)),mX (!T) (is (.bool n1)),is (.bool d1),is (.bool d1),mX (!d1) (pg w.heap.size 2),mX (!d1) (is (.string D)),mX (!d1) (pg (w.heap.size+1) 2),mX (!d1) (is (.string v)),mX (!d1) (is (.bool n2)),is (.bool d2),is (.bool d2),mX (!d2) (pg w.heap.size 4),mX (!d2) (is (.bool f)),mX (!d2) (pg (w.heap.size+1) 4),mX (!d2) (is (.bool B)),mX (!d2) (is (.bool n3)),is (.bool d3),is (.bool d3),mX (!d3) (pg w.heap.size 5),mX (!d3) (is (.int .i64 C)),mX (!d3) (pg (w.heap.size+1) 5),mX (!d3) (is (.int .i64 s)),mX (!d3) (is (.bool n4)),is (.bool Z),is (.bool Z),mX (!Z) (pg w.heap.size 6),mX (!Z) (is (.bool r)),mX (!Z) (pg (w.heap.size+1) 6),mX (!Z) (is (.bool A)),mX (!Z) (is (.bool n5)),is (.bool Y),is (.bool Y),mX (!Y) (pg w.heap.size 9),mX (!Y) (is (.bool d)),mX (!Y) (pg (w.heap.size+1) 9),mX (!Y) (is (.bool z)),mX (!Y) (is (.bool n6)),is (.bool X),is (.bool X),mX (!X) (pg w.heap.size 10),mX (!X) (is (.bool c)),mX (!X) (pg (w.heap.size+1) 10),mX (!X) (is (.bool g)),mX (!X) (is (.bool n7)),is (.bool d7)] [[],[0],[],[2],[1,3],[4],[5],[5,6],[5],[5,8],[5,7,9],[5,10],[11],[12],[12,13],[12],[12,15],[12,14,16],[12,17],[18],[19],[19,20],[19],[19,22],[19,21,23],[19,24],[25],[26],[26,27],[26],[26,29],[26,28,30],[26,31],[32],[33],[33,34],[33],[33,36],[33,35,37],[33,38],[39],[40],[40,41],[40],[40,43],[40,42,44],[40,45],[46],[47],[47,48],[47],[47,50],[47,49,51],[47,52]] (by kernel_rfl) ?_ ?_
 ·refine⟨?_,?_,?_,?_,?_,?_,?_,?_,?_,?_,?_,?_,?_,?_,?_,?_,?_,?_,?_,?_,?_,?_,?_,?_,?_,?_,?_,?_,?_,?_,?_,?_,?_,?_,?_,?_,?_,?_,?_,?_,?_,?_,?_,?_,?_,?_,?_,?_,?_,?_,?_,?_,?_,?_,trivial⟩;all_goals(intro t wq h hh K a;have c1:=fun i=>Bx.cell ((h.block _ (by omega)).trans e9) i;have c2:=fun i=>Bx.cell ((h.block _ P).trans e8) i;simp only[iD,oP,rgW,Act.put,Nat.reduceAdd,Nat.reduceEqDiff,reduceIte]at hh a⊢)
  iterate 6 · (try simp only[hh]at a⊢);clear hh;go_simp;exact a _ _ aT (by first|rfl|(show _=_;rw[←g7.out];try cases G<;>cases y<;>rfl))
  iterate 6 · cases T<;>(simp only[Qn]at hh a⊢;(try simp only[hh]at a⊢);clear hh;go_simp;exact a _ _ aT (by first|rfl|(show _=_;rw[h5.out];simp)|(show _=_;rw[←g6.out];try cases F<;>cases x<;>rfl)))
  ·(try simp only[hh]at a⊢);clear hh;go_simp;exact a _ _ aT rfl
  iterate 6 · cases d1<;>(simp only[Qn]at hh a⊢;(try simp only[hh]at a⊢);clear hh;go_simp;exact a _ _ aT (by first|rfl|(show _=_;rw[h4.out];simp)|(show _=_;rw[←g5.out];try cases D<;>cases v<;>rfl)))
  ·(try simp only[hh]at a⊢);clear hh;go_simp;exact a _ _ aT rfl
  iterate 6 · cases d2<;>(simp only[Qn]at hh a⊢;(try simp only[hh]at a⊢);clear hh;go_simp;exact a _ _ aT (by first|rfl|(show _=_;rw[h3.out];simp)|(show _=_;rw[←g4.out];try cases f<;>cases B<;>rfl)))
  ·(try simp only[hh]at a⊢);clear hh;go_simp;exact a _ _ aT rfl
  iterate 6 · cases d3<;>(simp only[Qn]at hh a⊢;(try simp only[hh]at a⊢);clear hh;go_simp;exact a _ _ aT (by first|rfl|(show _=_;rw[h2.out];simp)|(show _=_;rw[←g3.out];try cases C<;>cases s<;>rfl)))
  ·(try simp only[hh]at a⊢);clear hh;go_simp;exact a _ _ aT rfl
  iterate 6 · cases Z<;>(simp only[Qn]at hh a⊢;(try simp only[hh]at a⊢);clear hh;go_simp;exact a _ _ aT (by first|rfl|(show _=_;rw[h1.out];simp)|(show _=_;rw[←g2.out];try cases r<;>cases A<;>rfl)))
  ·(try simp only[hh]at a⊢);clear hh;go_simp;exact a _ _ aT rfl
  iterate 6 · cases Y<;>(simp only[Qn]at hh a⊢;(try simp only[hh]at a⊢);clear hh;go_simp;exact a _ _ aT (by first|rfl|(show _=_;rw[h0.out];simp)|(show _=_;rw[←g1.out];try cases d<;>cases z<;>rfl)))
  ·(try simp only[hh]at a⊢);clear hh;go_simp;exact a _ _ aT rfl
  iterate 6 · cases X<;>(simp only[Qn]at hh a⊢;(try simp only[hh]at a⊢);clear hh;go_simp;exact a _ _ aT (by first|rfl|(show _=_;rw[g9.out];simp)|(show _=_;rw[←g0.out];try cases c<;>cases g<;>rfl)))
 ·intro t wq h hh;have V:=aO hh 53 (by decide);simp only[pick]at V;replace V:t 53=(.bool d7):=V;clear hh;simp only[List.length_cons,List.length_nil,iD,oP,rgW,Act.put,Nat.reduceAdd,Nat.reduceEqDiff,reduceIte];simp only[V];have c9:=hid (f2.trans (h.mono f2.size));have e7:=hid ((h.block _ (by omega)).trans e9);have e6:=hid ((h.block _ P).trans e8);have a1:w.heap.size+1<wq.heap.size:=Nat.lt_of_lt_of_le P h.size;cases d7 with
  |true=>
   have HE:Hid (E=false):=by show _=_;rw[a0.out];simp
   go_wp2;go_ret;exact⟨aC HE.symm,c9⟩
  | false=>
   clear h;go_upto_region 3 with(fail)
   refine yE [pg w.heap.size 4,is (.bool f),is (.bool f),mX (f) (pg w.heap.size 3),mX (f) (is (.string I)),mX (f) (pg (w.heap.size+1) 3),mX (f) (is (.string H)),mX (f) (is (.bool m3)),is (.bool x1),is (.bool x1),mX (!x1) (pg w.heap.size 9),mX (!x1) (is (.bool d)),mX (!x1) (is (.bool d)),mX (!x1&&d) (pg w.heap.size 11),mX (!x1&&d) (is (.string m)),mX (!x1&&d) (pg (w.heap.size+1) 11),mX (!x1&&d) (is (.string k)),mX (!x1&&d) (is (.bool d8)),mX (!x1) (is (.bool y1)),is (.bool x2),is (.bool x2),mX (!x2) (pg w.heap.size 10),mX (!x2) (is (.bool c)),mX (!x2) (is (.bool c)),mX (!x2&&c) (pg w.heap.size 12),mX (!x2&&c) (is (.string l)),mX (!x2&&c) (pg (w.heap.size+1) 12),mX (!x2&&c) (is (.string j)),mX (!x2&&c) (is (.bool d0)),mX (!x2) (is (.bool z1)),is (.bool x3)] [[],[0],[1],[2],[2,3],[2],[2,5],[2,4,6],[2,7],[8],[9],[9,10],[9,11],[12],[12,13],[12],[12,15],[12,14,16],[9,12,17],[9,18],[19],[20],[20,21],[20,22],[23],[23,24],[23],[23,26],[23,25,27],[20,23,28],[20,29]] (by kernel_rfl) ?_ ?_
   ·refine⟨?_,?_,?_,?_,?_,?_,?_,?_,?_,?_,?_,?_,?_,?_,?_,?_,?_,?_,?_,?_,?_,?_,?_,?_,?_,?_,?_,?_,?_,?_,?_,trivial⟩;all_goals(intro t wq h hh K a;have c1:=fun i=>Bx.cell ((h.block _ (by omega)).trans e7) i;have c2:=fun i=>Bx.cell ((h.block _ a1).trans e6) i;simp only[iD,oP,rgW,Act.put,Nat.reduceAdd,Nat.reduceEqDiff,reduceIte]at hh a⊢)
    iterate 3 · (try simp only[hh]at a⊢);clear hh;go_simp;exact a _ _ aT rfl
    iterate 6 · cases f<;>(simp only[Qn]at hh a⊢;(try simp only[hh]at a⊢);clear hh;go_simp;exact a _ _ aT (by first|rfl|(show _=_;rw[f8.out];simp)|exact congrArg Value.bool g8.out))
    ·(try simp only[hh]at a⊢);clear hh;go_simp;exact a _ _ aT rfl
    iterate 3 · cases x1<;>(simp only[Qn]at hh a⊢;(try simp only[hh]at a⊢);clear hh;go_simp;exact a _ _ aT rfl)
    iterate 6 · cases x1<;>cases d<;>(simp only[Qn]at hh a⊢;(try simp only[hh]at a⊢);clear hh;go_simp;exact a _ _ aT (by first|rfl|(show _=_;rw[f7.out];simp)|exact congrArg Value.bool f1.out))
    ·cases x1<;>(simp only[Qn]at hh a⊢;(try simp only[hh]at a⊢);clear hh;go_simp;exact a _ _ aT (by first|rfl|(show _=_;rw[f6.out];simp)))
    ·(try simp only[hh]at a⊢);clear hh;go_simp;exact a _ _ aT rfl
    iterate 3 · cases x2<;>(simp only[Qn]at hh a⊢;(try simp only[hh]at a⊢);clear hh;go_simp;exact a _ _ aT rfl)
    iterate 6 · cases x2<;>cases c<;>(simp only[Qn]at hh a⊢;(try simp only[hh]at a⊢);clear hh;go_simp;exact a _ _ aT (by first|rfl|(show _=_;rw[f5.out];simp)|exact congrArg Value.bool f0.out))
    ·cases x2<;>(simp only[Qn]at hh a⊢;(try simp only[hh]at a⊢);clear hh;go_simp;exact a _ _ aT (by first|rfl|(show _=_;rw[f4.out];simp)))
   ·intro t wq h hh;have W:=aO hh 30 (by decide);simp only[pick]at W;replace W:t 30=(.bool x3):=W;clear hh;simp only[List.length_cons,List.length_nil,iD,oP,rgW,Act.put,Nat.reduceAdd,Nat.reduceEqDiff,reduceIte];simp only[W];have Q:=hid (c9.trans (h.mono c9.size));cases x3 with
    |true=>
     have HE:Hid (E=false):=by show _=_;rw[a0.out];simp
     go_wp2;go_ret;exact⟨aC HE.symm,Q⟩
    |false=>
     have hx:=(h.block _ (by omega)).trans e7;have d9:=(h.block _ a1).trans e6;obtain⟨k2,k1,k0,j9,j8,j7,j6,j5,j4,j3,i2,i1,i0⟩:=jT hx;obtain⟨j2,j1,j0,i9,i8,i7,i6,i5,i4,i3,h9,h8,h7⟩:=jT d9;clear hx d9;cases r with
     |true=>
      have HE:Hid (E=o7):=by show _=_;rw[a0.out];simp
      go_wp2;go_ret;exact⟨aC (f9.trans HE.symm),Q⟩
     |false=>
      have HE:Hid (E=decide (al=bl)):=by show _=_;rw[a0.out];simp
      go_wp2_with fail
      refine(Si aA bA an bn q n al bl _ (HR.below Q) (f3.below Q) e3 e4 e0 e1).mono ?_;rintro e w8 ⟨rfl,hb8⟩;go_wp2;go_ret;exact⟨aC HE.symm,bD Q hb8⟩
end aao
namespace Smz
open Go.RowKit Base aJ Ulw
theorem Sr {u:U} (d:u=U0) (A:Option Addr) (n c:Nat) (w:World) (a:Pt w u A n c):Calls prog 8 #[.agg #[.string (ah u.au),.string (ah u.bY),.string (ah u.bZ),.string (ah u.aU),.bool u.hh,.int .i64 u.port,.bool u.dK,.string (ah u.txt),.slice A n c,.bool u.hq,.bool u.hf,.string (ah u.bT),.string (ah u.eY)],.agg #[.string ⟨#[]⟩,.string ⟨#[]⟩,.string ⟨#[]⟩,.string ⟨#[]⟩,.bool false,.int .i64 0,.bool false,.string ⟨#[]⟩,.slice none 0 0,.bool false,.bool false,.string ⟨#[]⟩,.string ⟨#[]⟩]] w fun e w'=>e=.returned (.bool true)∧Below w.heap.size w w':=by
 subst d;have h:=aao.CS (ah U0.au) (ah U0.bY) (ah U0.bZ) (ah U0.aU) U0.hh U0.port U0.dK (ah U0.txt) A n c U0.aF U0.hq U0.hf (ah U0.bT) (ah U0.eY) ⟨#[]⟩ ⟨#[]⟩ ⟨#[]⟩ ⟨#[]⟩ false 0 false ⟨#[]⟩ none 0 0 [] false false ⟨#[]⟩ ⟨#[]⟩ w a.aF.1 a.aF.2.1 a.aF.2.2 (dV.nil _) (Nat.le_refl _) (Nat.zero_le _);rw[decide_eq_true (show dL.tH (ah U0.au) (ah U0.bY) (ah U0.bZ) (ah U0.aU) U0.hh U0.port U0.dK (ah U0.txt) U0.aF U0.hq U0.hf (ah U0.bT) (ah U0.eY)=dL.tH ⟨#[]⟩ ⟨#[]⟩ ⟨#[]⟩ ⟨#[]⟩ false 0 false ⟨#[]⟩ [] false false ⟨#[]⟩ ⟨#[]⟩from rfl)]at h;exact h
end Smz
