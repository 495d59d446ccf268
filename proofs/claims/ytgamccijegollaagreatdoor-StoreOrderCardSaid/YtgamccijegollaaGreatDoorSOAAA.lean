/- Texts that belong together: Base, dI, oO. -/
import Derived.Test.YtgamccijegollaaGreatDoorChecked
import Derived.WalkKit
import Derived.WalkSpells
import Derived.WalkLawsBesides
import Derived.Outline
import Derived.Laws.IdiomStrings
import Derived.Deep.Draws
import Derived.Deep.AppendLies
import Derived.Deep.RegionHeld3
import Derived.Deep.DrawnRows
import Derived.Lib.SplitLaws
import Derived.Lib.LastIndexByte
set_option linter.unusedSimpArgs false
set_option linter.unusedVariables false
set_option maxRecDepth 100000
set_option maxHeartbeats 64000000
namespace Go.Proofs.YtgamccijegollaaGreatDoor.Base
open Go.RowKit
theorem ak {a b:Bool} (h:a=b):Ending.returned (.bool a)=.returned (.bool b):=by rw[h]
theorem iw {k:IntKind} {a b:Int} (h:a=b):Ending.returned (.int k a)=.returned (.int k b):=by rw[h]
theorem int_eq {k:IntKind} {a b:Int} (h:a=b):Value.int k a=.int k b:=by rw[h]
theorem vS {a b a' b':Value} (h1:a=a') (h2:b=b'):Ending.returned (.tuple #[a,b])=.returned (.tuple #[a',b']):=by rw[h1,h2]
theorem ret3 {a b c a' b' c':Value} (h1:a=a') (h2:b=b') (h3:c=c'):Ending.returned (.tuple #[a,b,c])=.returned (.tuple #[a',b',c']):=by rw[h1,h2,h3]
theorem Xd (g j:Nat):(⟨g,0,none⟩:Addr).add j=⟨g,j,none⟩:=by unfold Addr.add;split<;>simp_all
theorem below_drewN {B:Nat} {a w:World} (h:Below B a w) (n:Nat):Below B a (w.drewN n):=⟨h.os,h.tape,h.output,h.size,h.block⟩
theorem PE (c:UInt8):bits .and .u8 (c.toNat:Int) 15=(c.toNat:Int)%16:=by
 have H:∀n:Fin 256,bits .and .u8 (n.val:Int) 15=(n.val:Int)%16:=by decide+kernel
 exact H ⟨c.toNat,c.toNat_lt⟩
theorem hid {p:Prop} (h:p):Hid p:=h
def strOf (l:List UInt8):ByteArray:=⟨l.toArray⟩
theorem aG (s:ByteArray):strOf s.data.toList=s:=by cases s;rfl
theorem o9 (l:List UInt8):(strOf l).size=l.length:=by simp[strOf,ByteArray.size]
def oK (w:World) (g:Nat) (t:TypeId) (L:List UInt8):Prop:=
 ∃C m,w.heap[g]?=some (.cells C t (m,m+1))∧L.length≤m∧m≤C.size∧∀j (h:j<L.length),C[j]?=some (.int .u8 (L[j].toNat:Int))
theorem oK.cell {w:World} {g:Nat} {t:TypeId} {L:List UInt8} (h:oK w g t L) (j:Nat) (hj:j<L.length):w.cell? ⟨g,j,none⟩=some (.int .u8 (L[j].toNat:Int)):=by
 obtain⟨C,m,hh,hm,hC,hc⟩:=h
 unfold World.cell?
 rw[hh]
 simpa using hc j hj
theorem oK.frozen {w:World} {g:Nat} {t:TypeId} {L:List UInt8} (h:oK w g t L) (j:Nat) (hj:j<L.length):w.frozen? ⟨g,j,none⟩=false:=by
 obtain⟨C,m,hh,hm,hC,hc⟩:=h
 unfold World.frozen?
 rw[hh]
 simp
 omega
theorem oK.set {w:World} {g:Nat} {t:TypeId} {L:List UInt8} (h:oK w g t L) (j:Nat) (c:UInt8):oK (w.setCell ⟨g,j,none⟩ (.int .u8 (c.toNat:Int))) g t (L.set j c):=by
 obtain⟨C,m,hh,hm,hC,hc⟩:=h
 refine⟨C.setIfInBounds j (.int .u8 (c.toNat:Int)),m,?_,by simpa using hm,by simpa using hC,fun i hi=>?_⟩
 ·simp[World.setCell,Array.getElem?_modify,hh]
 have hi':i<L.length:=by simpa using hi
 by_cases e:j=i
 ·subst e
  rw[Array.getElem?_setIfInBounds_self_of_lt (by omega)]
  simp
 rw[Array.getElem?_setIfInBounds_ne e,hc i hi']
 simp[List.getElem_set,e]
theorem oK.made (w:World) (s:ByteArray) (t:TypeId) (n:Nat) (hn:s.size≤n):oK (w.alloc (.cells (bytesRow s n) t ((bytesRow s n).size,(bytesRow s n).size+1))) w.heap.size t s.data.toList:=by
 have hsz:s.data.size=s.size:=rfl
 refine⟨bytesRow s n,(bytesRow s n).size,heap_alloc_new w _,?_,Nat.le_refl _,fun j hj=>?_⟩
 ·simp[bytesRow]
 rw[bytesRow_at s n j (by simpa using hj)]
 simp
def aY (w:World) (A:Option Addr) (n:Nat) (xs:List Value):Prop:=
 xs.length=n∧∀j (h:j<xs.length),∃b off,A=some ⟨b,off,none⟩∧b<w.heap.size∧w.cell? ⟨b,off+j,none⟩=some xs[j]
def ah (L:List UInt8):List Value:=L.map fun c=>.int .u8 (c.toNat:Int)
def gV (k:IntKind) (l:List Int):List Value:=l.map (Value.int k)
theorem aI (L:List UInt8):(ah L).length=L.length:=by simp[ah]
theorem jA (k:IntKind) (l:List Int):(gV k l).length=l.length:=by simp[gV]
theorem aS (a b:List UInt8):ah (a++b)=ah a++ah b:=by simp[ah]
theorem jl (a:List UInt8) (k:Nat):ah (a.drop k)=(ah a).drop k:=by simp[ah]
theorem iE (k:IntKind) (a b:List Int):gV k (a++b)=gV k a++gV k b:=by simp[gV]
theorem iR:(Tryz.prog.info? 5).map (fun i=>(i.zero,i.size,i.bytes))=some (some (.int .u8 0),1,1):=by kernel_rfl
section
variable {w w':World} {A:Option Addr} {n:Nat} {xs:List Value}
theorem aY.nil (A:Option Addr):aY w A 0 []:=⟨rfl,fun j h=>absurd h (by simp)⟩
theorem aY.spot (h:aY w A n xs) (hn:0<n):∃b off,A=some ⟨b,off,none⟩∧b<w.heap.size∧∀j (h:j<xs.length),w.cell? ⟨b,off+j,none⟩=some xs[j]:=by
 obtain⟨b,off,rfl,hb,_⟩:=h.2 0 (by rw[h.1];exact hn)
 refine⟨b,off,rfl,hb,fun j hj=>?_⟩
 obtain⟨b',off',e,_,hc⟩:=h.2 j hj
 injection e with e
 injection e with e1 e2
 subst e1 e2
 exact hc
theorem aY.jF {b off:Nat} (hl:xs.length=n) (hb:b<w.heap.size) (h:∀j (h:j<xs.length),w.cell? ⟨b,off+j,none⟩=some xs[j]):aY w (some ⟨b,off,none⟩) n xs:=
 ⟨hl,fun j hj=>⟨b,off,rfl,hb,h j hj⟩⟩
theorem aY.below (h:aY w A n xs) (hb:Below w.heap.size w w'):aY w' A n xs:=
 ⟨h.1,fun j hj=>by
  obtain⟨b,off,rfl,hlt,hc⟩:=h.2 j hj
  exact⟨b,off,rfl,Nat.lt_of_lt_of_le hlt hb.size,(hb.cell (p:=⟨b,off+j,none⟩) hlt).trans hc⟩⟩
theorem aY.cut {b off:Nat} (h:aY w (some ⟨b,off,none⟩) n xs) (k:Nat) (hk:k≤n):aY w (some ⟨b,off+k,none⟩) (n - k) (xs.drop k):=
 ⟨by rw[List.length_drop,h.1],fun j hj=>by
  have hj':k+j<xs.length:=by rw[List.length_drop]at hj;omega
  obtain⟨b',off',e,hlt,hc⟩:=h.2 (k+j) hj'
  injection e with e
  injection e with e1 e2
  subst e1 e2
  refine⟨b,off+k,rfl,hlt,?_⟩
  rw[Nat.add_assoc,hc,List.getElem_drop]⟩
theorem aY.upto {b off:Nat} (h:aY w (some ⟨b,off,none⟩) n xs) (k:Nat) (hk:k≤n):aY w (some ⟨b,off,none⟩) k (xs.take k):=
 ⟨by rw[List.length_take,h.1];omega,fun j hj=>by
  have hj':j<xs.length:=by rw[List.length_take]at hj;omega
  obtain⟨b',off',e,hlt,hc⟩:=h.2 j hj'
  refine⟨b',off',e,hlt,?_⟩
  rw[hc,List.getElem_take]⟩
theorem aY.byte {L:List UInt8} {b off:Nat} (h:aY w (some ⟨b,off,none⟩) n (ah L)) (j:Nat) (hj:j<L.length):w.cell? ⟨b,off+j,none⟩=some (.int .u8 (L[j].toNat:Int)):=by
 obtain⟨b',off',e,_,hc⟩:=h.2 j (by rw[aI];exact hj)
 injection e with e
 injection e with e1 e2
 subst e1 e2
 rw[hc]
 simp[ah]
theorem aY.int {k:IntKind} {l:List Int} {b off:Nat} (h:aY w (some ⟨b,off,none⟩) n (gV k l)) (j:Nat) (hj:j<l.length):w.cell? ⟨b,off+j,none⟩=some (.int k l[j]):=by
 obtain⟨b',off',e,_,hc⟩:=h.2 j (by rw[jA];exact hj)
 injection e with e
 injection e with e1 e2
 subst e1 e2
 rw[hc]
 simp[gV]
theorem aJ {base:Nat} {e:TypeId} {v:Value} (h:w.ownsRow base e 1 v n xs):∃A c,v=.slice A n c∧n≤c∧c≤maxLen∧aY w A n xs:=by
 obtain⟨hl,h⟩:=h
 rw[Nat.mul_one]at hl
 rcases h with⟨rfl,rfl⟩|⟨g,cap,cur,rfl,hb,hh,hc,hm,hs,ht⟩
 ·exact⟨none,0,rfl,Nat.le_refl _,Nat.zero_le _,hl,fun j hj=>absurd hj (by omega)⟩
 refine⟨some ⟨g,0,none⟩,cap,rfl,hc,hm,aY.jF hl (Array.getElem?_eq_some_iff.1 hh).1 fun j hj=>?_⟩
 rw[Nat.zero_add,cell_of_row w g j cur e (0,0) hh]
 simp only[Nat.mul_one]at ht
 have:(cur.toList.take n)[j]?=some xs[j]:=by rw[ht];exact List.getElem?_eq_getElem hj
 rw[List.getElem?_take,if_pos (by omega)]at this
 simpa using this
theorem aP {base:Nat} {e:TypeId} {size:Nat} {v:Value} (h:w.ownsRow base e size v n xs) (hb:Below w.heap.size w w'):w'.ownsRow base e size v n xs:=by
 refine⟨h.1,?_⟩
 rcases h.2 with hn|⟨g,cap,cur,rfl,hg,hh,rest⟩
 ·exact .inl hn
 exact .inr ⟨g,cap,cur,rfl,hg,(hb.block g (Array.getElem?_eq_some_iff.1 hh).1).trans hh,rest⟩
theorem ay {base base':Nat} {e:TypeId} {size:Nat} {v:Value} (h:w.ownsRow base e size v n xs) (hb:base'≤base):w.ownsRow base' e size v n xs:=by
 refine⟨h.1,?_⟩
 rcases h.2 with hn|⟨g,cap,cur,rfl,hg,rest⟩
 ·exact .inl hn
 exact .inr ⟨g,cap,cur,rfl,Nat.le_trans hb hg,rest⟩
theorem aF {P:Program} (src dst e:TypeId) (hs:P.underlying src=some (.slice e)) (he:P.underlying e=some (.int .u8)) (hd:P.underlying dst=some .string) (L:List UInt8) (c:Nat) (h:aY w A n (ah L)):
  (convert src dst (.slice A n c)).run P w=.ok (.string (strOf L)) w:=by
 have hl:L.length=n:=by rw[←aI];exact h.1
 cases A with
 | none=>
  have h0:n=0:=by
   rcases Nat.eq_zero_or_pos n with h0|h0
   ·exact h0
   ·obtain⟨_,_,e,_⟩:=h.spot h0
    cases e
  subst h0
  obtain rfl:L=[]:=List.eq_nil_of_length_eq_zero hl
  rw[run_convert_bytes_string w src dst e none 0 c hs he hd]
  rfl
 | some a=>
  subst hl
  exact run_convert_bytes_back w src dst e a c L hs he hd (fun j hj=>by
   obtain⟨b,off,e,_,hc⟩:=h.2 j (by rw[aI];exact hj)
   injection e with e
   subst e
   have ha:(⟨b,off,none⟩:Addr).add j=⟨b,off+j,none⟩:=by
    unfold Addr.add
    split<;>simp_all
   rw[ha,hc]
   simp[ah])
end
section
variable {P:Program} {W w0:World} {ops:Array Oper} {rest:List Oper} {o:Oper} {a:Act} {Q:Exit→Act→World→Prop}
theorem aQ (hgd:o.guard=none) (s x:Operand) (t:TypeId) (ho:o.op=.call {callee:=.builtin .append,args:=#[s,x],argTypes:=#[t,t]})
  (B:Nat) (e:TypeId) (i:TypeInfo) (z:Value) (by_:Nat) (ht:P.underlying t=some (.slice e)) (hi:P.info? e=some i) (hz:i.zero=some z) (hsize:i.size=1) (hby:i.bytes=by_) (hzs:z.cells.size=1)
  (v:Value) (n:Nat) (xs:List Value) (hs:a.eval s=v) (hown:W.ownsRow B e 1 v n xs) (hbel:Below B w0 W) (hB:B≤W.heap.size)
  (news:List Value) (m:Nat) (hm:news.length=m) (hx:a.eval x=.slice (some ⟨W.heap.size,0,none⟩) m m) (h1:∀u ∈ news,u.oneCell'=true)
  (h63:n+m≤maxLen) (hbytes:(n+m)*by_≤140737488355328)
  (h:∀v' w',w'.ownsRow B e 1 v' (n+m) (xs++news)→Below B w0 w'→wpList P ops Q rest (a.put o.dst v') w'):
  wpList P ops Q (o::rest) a (W.alloc (.cells news.toArray e)):=by
 refine wpList_append_own _ hgd s x t ho B e i z 1 by_ ht hi hz hsize hby hzs (by decide) v n xs hs (hown.alloc _) ⟨W.heap.size,0,none⟩ m m news hx (by omega) (fun j u hj=>?_) h1 h63 hbytes (by simp;omega) (fun v' w' h2 h3 _=>h v' w' h2 ?_)
 ·rw[Xd,World.cell?_alloc_mark]
  simpa using hj
 ·exact(hbel.alloc hB _).grown h3 (by simp;omega) (fun g hg=>(hown.lt g hg).1)
theorem RS {K:Act→World→Prop} {E:Prop} (hgd:o.guard=none) (s x:Operand) (t:TypeId) (ho:o.op=.call {callee:=.builtin .append,args:=#[s,x],argTypes:=#[t,t]})
  (B:Nat) (e:TypeId) (i:TypeInfo) (z:Value) (by_:Nat) (ht:P.underlying t=some (.slice e)) (hi:P.info? e=some i) (hz:i.zero=some z) (hsize:i.size=1) (hby:i.bytes=by_) (hzs:z.cells.size=1)
  (v:Value) (n:Nat) (xs:List Value) (hs:a.eval s=v) (hown:W.ownsRow B e 1 v n xs) (hbel:Below B w0 W) (hB:B≤W.heap.size)
  (news:List Value) (m:Nat) (hm:news.length=m) (hm0:0<m) (hx:a.eval x=.slice (some ⟨W.heap.size,0,none⟩) m m) (h1:∀u ∈ news,u.oneCell'=true)
  (h63:n+m≤maxLen) (hbytes:(n+m)*by_≤140737488355328) {wq:World} (hwq:Below B (W.alloc (.cells news.toArray e)) wq∧(∀b:Nat,wq.heap[b]?=(W.alloc (.cells news.toArray e)).heap[b]?)∧wq.heap.size=W.heap.size+1)
  (h:∀v' w',w'.ownsRow B e 1 v' (n+m) (xs++news)→Below B w0 w'→K (a.put o.dst v') w'):
  if Region.wanted o (yielded ops a.tmps)=true then Oper.wp P o a wq K Q else E:=by
 have hgr:Below (W.alloc (.cells news.toArray e)).heap.size (W.alloc (.cells news.toArray e)) wq:=⟨hwq.1.os,hwq.1.tape,hwq.1.output,hwq.1.size,fun k _=>hwq.2.1 k⟩
 have hown':wq.ownsRow B e 1 v n xs:=aP (hown.alloc _) hgr
 refine step_append_lies (w:=wq) hgd s x t ho B e i z 1 by_ ht hi hz hsize hby hzs (by decide) v n xs hs hown' ⟨W.heap.size,0,none⟩ m m news hx (by omega) (fun j u hj=>?_) h1 hm0 h63 hbytes (by omega) _ rfl (fun g cap w' h2 h3 _ _=>h _ w' h2 ?_)
 ·rw[Xd,World.cell?_of_block (w:=W.alloc (.cells news.toArray e)) (hwq.2.1 _),World.cell?_alloc_mark]
  simpa using hj
 ·exact((hbel.alloc hB _).trans hwq.1).grown h3 (by omega) (fun g hg=>(hown.lt g hg).1)
end
theorem blr {B:Nat} {w:World}:Below B w w:=Below.refl _ _
end Go.Proofs.YtgamccijegollaaGreatDoor.Base
namespace Go.Proofs.YtgamccijegollaaGreatDoor.dI
open Go.RowKit Base
def letter (c:Int):Bool:=decide (65≤c∧c≤90∨97≤c∧c≤122)
def digit (c:Int):Bool:=decide (48≤c∧c≤57)
def hex (c:Int):Int:=if 48≤c∧c≤57 then c - 48 else if 97≤c∧c≤102 then c - 87 else if 65≤c∧c≤70 then c - 55 else -1
theorem dN (c:Int) (w:World):Calls Tryz.prog 210 #[.int .u8 c] w fun e w'=>e=.returned (.bool (letter c))∧w=w':=by
 go_enter Tryz.func210,Tryz.ntmps210
 go_wp2
 all_goals
  go_ret
  exact⟨ak (by unfold letter;rw[Bool.eq_iff_iff];simp;omega),rfl⟩
theorem fE (c:Int) (w:World):Calls Tryz.prog 211 #[.int .u8 c] w fun e w'=>e=.returned (.bool (digit c))∧w=w':=by
 go_enter Tryz.func211,Tryz.ntmps211
 go_wp2
 all_goals
  go_ret
  exact⟨ak (by unfold digit;rw[Bool.eq_iff_iff];simp;omega),rfl⟩
theorem dV (c:Int) (w:World) (h0:0≤c) (h1:c≤255):Calls Tryz.prog 256 #[.int .u8 c] w fun e w'=>e=.returned (.int .i64 (hex c))∧w=w':=by
 go_enter Tryz.func256,Tryz.ntmps256
 go_wp2
 all_goals
  go_ret
  exact⟨iw (by unfold hex;(repeat' split)<;>omega),rfl⟩
end Go.Proofs.YtgamccijegollaaGreatDoor.dI
namespace Go.Proofs.YtgamccijegollaaGreatDoor.oO
open Go.RowKit Base dI
theorem vG (c:UInt8): -1≤hex c.toNat∧hex c.toNat≤15:=by
 have H:∀n:Fin 256,-1≤hex (n.val:Int)∧hex (n.val:Int)≤15:=by decide+kernel
 exact H ⟨c.toNat,c.toNat_lt⟩
def lH (b:Nat) (c:UInt8):Bool:=decide (0≤hex c.toNat)&&decide (hex c.toNat<b)
def eu (b:Nat) (L:List UInt8):Bool:=L.all (lH b)
def dv (c:UInt8):Nat:=(hex c.toNat).toNat
def val (b:Nat) (L:List UInt8):Nat:=L.foldl (fun n c=>n*b+dv c) 0
theorem jh (b:Nat) (L:List UInt8) (c:UInt8):val b (L++[c])=val b L*b+dv c:=by simp[val]
def Ht:List UInt8→Nat×List UInt8
 |[]=>(10,[])
 |[a]=>(10,[a])
 |a::x::r=>if a=48 then(if x=120∨x=88 then(16,r)else(8,x::r))else(10,a::x::r)
def num (L:List UInt8):Option Nat:=if L=[]then none else if eu (Ht L).1 (Ht L).2=true then some (val (Ht L).1 (Ht L).2)else none
def sat (n:Nat):Nat:=min n 4294967296
theorem Ea (v b d:Nat) (hb:1≤b):min (sat v*b+d) 4294967296=sat (v*b+d):=by
 unfold sat
 by_cases h:v≤4294967296
 ·rw[Nat.min_eq_left h]
 rw[Nat.min_eq_right (show 4294967296≤v by omega)]
 have h1:4294967296≤4294967296*b:=Nat.le_mul_of_pos_right _ hb
 have h2:4294967296*b≤v*b:=Nat.mul_le_mul_right _ (by omega)
 omega
theorem U8 (c:UInt8):dv c≤15:=by have:=vG c;unfold dv;omega
def bZ:List UInt8→List (List UInt8)
 |[]=>[[]]
 |c::L=>if c=46 then[]::bZ L else match bZ L with
  |[]=>[[c]]
  |x::r=>(c::x)::r
theorem qY:∀L:List UInt8,bZ L≠[]
 |[]=>by simp[bZ]
 |c::L=>by
  unfold bZ
  split
  ·simp
  ·split<;>simp
def oH (L:List UInt8):List UInt8:=Lib.trimSuffix L [46]
theorem L9 (L:List UInt8) (d:UInt8) (hd:d≠46):oH (L++[d])=L++[d]:=by
 unfold oH Lib.trimSuffix
 rw[if_neg ?_]
 intro h
 simp only[Lib.hasSuffix,List.isSuffixOf_iff_suffix]at h
 obtain⟨t,ht⟩:=h
 have:=List.append_inj_right' ht rfl
 simp at this
 exact hd this.symm
theorem rW (L:List UInt8):(bZ L).length≤L.length+1:=by
 induction L with
 |nil=>simp[bZ]
 |cons c L ih=>
  unfold bZ
  split
  ·simp;omega
  split
  ·simp
  rename_i h;rw[h]at ih;simp at ih⊢;omega
theorem qK:∀(L:List UInt8),∀x ∈ bZ L,x.length≤L.length
 |[],x,h=>by simp[bZ]at h;subst h;simp
 | c :: L, x, h => by
  unfold bZ at h
  split at h
  ·rcases List.mem_cons.1 h with rfl|h
   ·simp
   ·have:=qK L x h;simp;omega
  ·split at h
   ·simp at h;subst h;simp
   ·rename_i y r e
    rcases List.mem_cons.1 h with rfl|h
    ·have:=qK L y (by rw[e];simp);simp;omega
    ·have:=qK L x (by rw[e];simp[h]);simp;omega
theorem Fa (L:List UInt8):(oH L).length≤L.length:=by
 unfold oH Lib.trimSuffix
 split
 ·rw[List.length_take];omega
 exact Nat.le_refl _
def mZ:Nat→Nat→List (List UInt8)→Option Nat
 |_,acc,[]=>some acc
 |most,acc,[p]=>match num p with
  |some v=>if v<most then some (acc+v)else none
  |none=>none
 |most,acc,p::q::r=>match num p with
  |some v=>if v≤255 then mZ (most / 256) (acc+v*(most / 256)) (q::r)else none
  |none=>none
def NR (L:List UInt8):Option Nat:=if (bZ (oH L)).length≤4 then mZ 4294967296 0 (bZ (oH L))else none
def lst (L:List UInt8):List UInt8:=((bZ L).getLast?).getD []
def ends (L:List UInt8):Bool:=(num (lst (oH L))).isSome||(decide (lst (oH L)≠[])&&eu 10 (lst (oH L)))
theorem yH (c:UInt8):dI.digit c.toNat=lH 10 c:=by
 have H:∀n:Fin 256,dI.digit (n.val:Int)=(decide (0≤hex (n.val:Int))&&decide (hex (n.val:Int)<(10:Nat))):=by decide+kernel
 exact H ⟨c.toNat,c.toNat_lt⟩
theorem ahn (s : ByteArray) : s.data.toList.drop (Lib.lastIndexByte s 46 + 1).toNat = lst s.data.toList ∧ -1 ≤ Lib.lastIndexByte s 46 ∧ Lib.lastIndexByte s 46 < s.size := by
 have hb:∀j (h:j<s.data.toList.length),s.data[j]! =s.data.toList[j]:=fun j h=>by
  rw[getElem!_pos s.data j (by simpa using h)]
  simp
 have I8:∀M:List UInt8,(∀c ∈ M,c≠46)→bZ M=[M]:=by
  intro M
  induction M with
  |nil=>intro _;rfl
  |cons c M ih=>
   intro h
   rw[bZ,if_neg (h c (by simp)),ih fun d hd=>h d (by simp[hd])]
 have behind:∀(A M:List UInt8),(∀c ∈ M,c≠46)→lst (A++46::M)=M:=by
  intro A M hM
  induction A with
  |nil=>
   unfold lst
   rw[List.nil_append,bZ,if_pos rfl,I8 M hM]
   rfl
  | cons c A ih=>
   have hne:=qY (A++46::M)
   unfold lst at ih⊢
   rw[List.cons_append,bZ]
   split
   ·rw[List.getLast?_cons_of_ne_nil hne];exact ih
   cases h:bZ (A++46::M)with
   |nil=>exact absurd h hne
   | cons x r=>
    rw[h]at ih
    cases r with
    | nil=>
     exfalso
     have:2≤(bZ (A++46::M)).length:=by
      clear ih h hne
      induction A with
      |nil=>rw[List.nil_append,bZ,if_pos rfl,I8 M hM];simp
      |cons c A ih=> 
       rw[List.cons_append,bZ]
       split
       ·simp;omega
       split
       ·rename_i e;rw[e]at ih;simp at ih
       rename_i e;rw[e]at ih;simpa using ih
     rw[h]at this
     simp at this
    |cons y r'=>simpa using ih
 have hsz:s.data.toList.length=s.size:=Array.length_toList
 rcases Lib.lastIndexByte_spec s 46 with⟨h1,h2⟩|⟨i,hi,h1,h2,h3⟩
 ·rw[h1]
  refine⟨?_,by omega,by omega⟩
  show s.data.toList.drop 0=_
  rw[List.drop_zero]
  unfold lst
  rw[I8]
  ·rfl
  intro c hc
  obtain⟨j,hj,rfl⟩:=List.getElem_of_mem hc
  have:=h2 j (by omega)
  rw[hb j hj]at this
  intro e
  rw[e]at this
  exact this rfl
 rw[h1]
 refine⟨?_,by omega,by omega⟩
 have hil:i<s.data.toList.length:=by omega
 have e46:s.data.toList[i]=46:=by
  rw[hb i hil]at h2
  exact UInt8.toNat_inj.1 (by show _=46;omega)
 have e:s.data.toList=s.data.toList.take i++46::s.data.toList.drop (i+1):=by
  conv=>lhs;rw[←List.take_append_drop i s.data.toList,List.drop_eq_getElem_cons hil,e46]
 have hM:∀c ∈ s.data.toList.drop (i+1),c≠46:=by
  intro c hc
  obtain⟨j,hj,rfl⟩:=List.getElem_of_mem hc
  rw[List.length_drop]at hj
  rw[List.getElem_drop]
  have:=h3 (i+1+j) (by omega) (by omega)
  rw[hb _ (by omega)]at this
  intro e
  rw[e]at this
  exact this rfl
 have ht:((i:Int)+1).toNat=i+1:=by omega
 rw[ht]
 conv=>rhs;rw[e]
 rw[behind _ _ hM]
end Go.Proofs.YtgamccijegollaaGreatDoor.oO
