/- Texts that belong together: Base, Dp, acj, L6, Regt, Regp, uw, xH, dI, oO. -/
import Derived.Test.YtgamccijegollaaGreatDoorChecked
import Derived.WalkKit
import Derived.WalkSpells
import Derived.WalkLawsBesides
import Derived.Outline
import Derived.Laws.IdiomStrings
import Derived.Deep.Draws
import Derived.Deep.AppendLies
import Derived.Deep.RegionHeld3
import Derived.Deep.DrawnRows
import Derived.Laws.OwnMore
import Derived.StillTail
import Derived.Laws.CopyRow
import Derived.Lib.SplitLaws
import Derived.Lib.LastIndexByte
set_option linter.unusedSimpArgs false
set_option linter.unusedVariables false
set_option maxRecDepth 100000
set_option maxHeartbeats 64000000
namespace Go.Proofs.YtgamccijegollaaGreatDoor.Base
open Go.RowKit
theorem ak {a b:Bool} (h:a=b):Ending.returned (.bool a)=.returned (.bool b):=by rw[h]
theorem iw {k:IntKind} {a b:Int} (h:a=b):Ending.returned (.int k a)=.returned (.int k b):=by rw[h]
theorem int_eq {k:IntKind} {a b:Int} (h:a=b):Value.int k a=.int k b:=by rw[h]
theorem iO {a b:Bool} (h:a=b):Value.bool a=.bool b:=by rw[h]
theorem vS {a b a' b':Value} (h1:a=a') (h2:b=b'):Ending.returned (.tuple #[a,b])=.returned (.tuple #[a',b']):=by rw[h1,h2]
theorem ret3 {a b c a' b' c':Value} (h1:a=a') (h2:b=b') (h3:c=c'):Ending.returned (.tuple #[a,b,c])=.returned (.tuple #[a',b',c']):=by rw[h1,h2,h3]
theorem Xd (g j:Nat):(⟨g,0,none⟩:Addr).add j=⟨g,j,none⟩:=by unfold Addr.add;split<;>simp_all
theorem below_drewN {B:Nat} {a w:World} (h:Below B a w) (n:Nat):Below B a (w.drewN n):=⟨h.os,h.tape,h.output,h.size,h.block⟩
theorem PE (c:UInt8):bits .and .u8 (c.toNat:Int) 15=(c.toNat:Int)%16:=by
 have H:∀n:Fin 256,bits .and .u8 (n.val:Int) 15=(n.val:Int)%16:=by decide+kernel
 exact H ⟨c.toNat,c.toNat_lt⟩
theorem hid {p:Prop} (h:p):Hid p:=h
def strOf (l:List UInt8):ByteArray:=⟨l.toArray⟩
theorem aG (s:ByteArray):strOf s.data.toList=s:=by cases s;rfl
theorem o9 (l:List UInt8):(strOf l).size=l.length:=by simp[strOf,ByteArray.size]
def oK (w:World) (g:Nat) (t:TypeId) (L:List UInt8):Prop:=
 ∃C m,w.heap[g]?=some (.cells C t (m,m+1))∧L.length≤m∧m≤C.size∧∀j (h:j<L.length),C[j]?=some (.int .u8 (L[j].toNat:Int))
theorem oK.cell {w:World} {g:Nat} {t:TypeId} {L:List UInt8} (h:oK w g t L) (j:Nat) (hj:j<L.length):w.cell? ⟨g,j,none⟩=some (.int .u8 (L[j].toNat:Int)):=by
 obtain⟨C,m,hh,hm,hC,hc⟩:=h
 unfold World.cell?
 rw[hh]
 simpa using hc j hj
theorem oK.frozen {w:World} {g:Nat} {t:TypeId} {L:List UInt8} (h:oK w g t L) (j:Nat) (hj:j<L.length):w.frozen? ⟨g,j,none⟩=false:=by
 obtain⟨C,m,hh,hm,hC,hc⟩:=h
 unfold World.frozen?
 rw[hh]
 simp
 omega
theorem oK.set {w:World} {g:Nat} {t:TypeId} {L:List UInt8} (h:oK w g t L) (j:Nat) (c:UInt8):oK (w.setCell ⟨g,j,none⟩ (.int .u8 (c.toNat:Int))) g t (L.set j c):=by
 obtain⟨C,m,hh,hm,hC,hc⟩:=h
 refine⟨C.setIfInBounds j (.int .u8 (c.toNat:Int)),m,?_,by simpa using hm,by simpa using hC,fun i hi=>?_⟩
 ·simp[World.setCell,Array.getElem?_modify,hh]
 have hi':i<L.length:=by simpa using hi
 by_cases e:j=i
 ·subst e
  rw[Array.getElem?_setIfInBounds_self_of_lt (by omega)]
  simp
 rw[Array.getElem?_setIfInBounds_ne e,hc i hi']
 simp[List.getElem_set,e]
theorem oK.made (w:World) (s:ByteArray) (t:TypeId) (n:Nat) (hn:s.size≤n):oK (w.alloc (.cells (bytesRow s n) t ((bytesRow s n).size,(bytesRow s n).size+1))) w.heap.size t s.data.toList:=by
 have hsz:s.data.size=s.size:=rfl
 refine⟨bytesRow s n,(bytesRow s n).size,heap_alloc_new w _,?_,Nat.le_refl _,fun j hj=>?_⟩
 ·simp[bytesRow]
 rw[bytesRow_at s n j (by simpa using hj)]
 simp
def aY (w:World) (A:Option Addr) (n:Nat) (xs:List Value):Prop:=
 xs.length=n∧∀j (h:j<xs.length),∃b off,A=some ⟨b,off,none⟩∧b<w.heap.size∧w.cell? ⟨b,off+j,none⟩=some xs[j]
def ah (L:List UInt8):List Value:=L.map fun c=>.int .u8 (c.toNat:Int)
def gV (k:IntKind) (l:List Int):List Value:=l.map (Value.int k)
theorem aI (L:List UInt8):(ah L).length=L.length:=by simp[ah]
theorem jA (k:IntKind) (l:List Int):(gV k l).length=l.length:=by simp[gV]
theorem aS (a b:List UInt8):ah (a++b)=ah a++ah b:=by simp[ah]
theorem jl (a:List UInt8) (k:Nat):ah (a.drop k)=(ah a).drop k:=by simp[ah]
theorem lC (a:List UInt8) (k:Nat):ah (a.take k)=(ah a).take k:=by simp[ah]
theorem iE (k:IntKind) (a b:List Int):gV k (a++b)=gV k a++gV k b:=by simp[gV]
theorem nR (L:List UInt8):∀u ∈ ah L,u.oneCell'=true:=by
 intro u hu
 simp only[ah,List.mem_map]at hu
 obtain⟨c,_,rfl⟩:=hu
 rfl
theorem iR:(Tryz.prog.info? 5).map (fun i=>(i.zero,i.size,i.bytes))=some (some (.int .u8 0),1,1):=by kernel_rfl
section
variable {w w':World} {A:Option Addr} {n:Nat} {xs:List Value}
theorem aY.nil (A:Option Addr):aY w A 0 []:=⟨rfl,fun j h=>absurd h (by simp)⟩
theorem aY.spot (h:aY w A n xs) (hn:0<n):∃b off,A=some ⟨b,off,none⟩∧b<w.heap.size∧∀j (h:j<xs.length),w.cell? ⟨b,off+j,none⟩=some xs[j]:=by
 obtain⟨b,off,rfl,hb,_⟩:=h.2 0 (by rw[h.1];exact hn)
 refine⟨b,off,rfl,hb,fun j hj=>?_⟩
 obtain⟨b',off',e,_,hc⟩:=h.2 j hj
 injection e with e
 injection e with e1 e2
 subst e1 e2
 exact hc
theorem aY.jF {b off:Nat} (hl:xs.length=n) (hb:b<w.heap.size) (h:∀j (h:j<xs.length),w.cell? ⟨b,off+j,none⟩=some xs[j]):aY w (some ⟨b,off,none⟩) n xs:=
 ⟨hl,fun j hj=>⟨b,off,rfl,hb,h j hj⟩⟩
theorem aY.below (h:aY w A n xs) (hb:Below w.heap.size w w'):aY w' A n xs:=
 ⟨h.1,fun j hj=>by
  obtain⟨b,off,rfl,hlt,hc⟩:=h.2 j hj
  exact⟨b,off,rfl,Nat.lt_of_lt_of_le hlt hb.size,(hb.cell (p:=⟨b,off+j,none⟩) hlt).trans hc⟩⟩
theorem aY.cut {b off:Nat} (h:aY w (some ⟨b,off,none⟩) n xs) (k:Nat) (hk:k≤n):aY w (some ⟨b,off+k,none⟩) (n - k) (xs.drop k):=
 ⟨by rw[List.length_drop,h.1],fun j hj=>by
  have hj':k+j<xs.length:=by rw[List.length_drop]at hj;omega
  obtain⟨b',off',e,hlt,hc⟩:=h.2 (k+j) hj'
  injection e with e
  injection e with e1 e2
  subst e1 e2
  refine⟨b,off+k,rfl,hlt,?_⟩
  rw[Nat.add_assoc,hc,List.getElem_drop]⟩
theorem aY.upto {b off:Nat} (h:aY w (some ⟨b,off,none⟩) n xs) (k:Nat) (hk:k≤n):aY w (some ⟨b,off,none⟩) k (xs.take k):=
 ⟨by rw[List.length_take,h.1];omega,fun j hj=>by
  have hj':j<xs.length:=by rw[List.length_take]at hj;omega
  obtain⟨b',off',e,hlt,hc⟩:=h.2 j hj'
  refine⟨b',off',e,hlt,?_⟩
  rw[hc,List.getElem_take]⟩
theorem aY.byte {L:List UInt8} {b off:Nat} (h:aY w (some ⟨b,off,none⟩) n (ah L)) (j:Nat) (hj:j<L.length):w.cell? ⟨b,off+j,none⟩=some (.int .u8 (L[j].toNat:Int)):=by
 obtain⟨b',off',e,_,hc⟩:=h.2 j (by rw[aI];exact hj)
 injection e with e
 injection e with e1 e2
 subst e1 e2
 rw[hc]
 simp[ah]
theorem aY.int {k:IntKind} {l:List Int} {b off:Nat} (h:aY w (some ⟨b,off,none⟩) n (gV k l)) (j:Nat) (hj:j<l.length):w.cell? ⟨b,off+j,none⟩=some (.int k l[j]):=by
 obtain⟨b',off',e,_,hc⟩:=h.2 j (by rw[jA];exact hj)
 injection e with e
 injection e with e1 e2
 subst e1 e2
 rw[hc]
 simp[gV]
theorem aJ {base:Nat} {e:TypeId} {v:Value} (h:w.ownsRow base e 1 v n xs):∃A c,v=.slice A n c∧n≤c∧c≤maxLen∧aY w A n xs:=by
 obtain⟨hl,h⟩:=h
 rw[Nat.mul_one]at hl
 rcases h with⟨rfl,rfl⟩|⟨g,cap,cur,rfl,hb,hh,hc,hm,hs,ht⟩
 ·exact⟨none,0,rfl,Nat.le_refl _,Nat.zero_le _,hl,fun j hj=>absurd hj (by omega)⟩
 refine⟨some ⟨g,0,none⟩,cap,rfl,hc,hm,aY.jF hl (Array.getElem?_eq_some_iff.1 hh).1 fun j hj=>?_⟩
 rw[Nat.zero_add,cell_of_row w g j cur e (0,0) hh]
 simp only[Nat.mul_one]at ht
 have:(cur.toList.take n)[j]?=some xs[j]:=by rw[ht];exact List.getElem?_eq_getElem hj
 rw[List.getElem?_take,if_pos (by omega)]at this
 simpa using this
theorem aP {base:Nat} {e:TypeId} {size:Nat} {v:Value} (h:w.ownsRow base e size v n xs) (hb:Below w.heap.size w w'):w'.ownsRow base e size v n xs:=by
 refine⟨h.1,?_⟩
 rcases h.2 with hn|⟨g,cap,cur,rfl,hg,hh,rest⟩
 ·exact .inl hn
 exact .inr ⟨g,cap,cur,rfl,hg,(hb.block g (Array.getElem?_eq_some_iff.1 hh).1).trans hh,rest⟩
theorem ay {base base':Nat} {e:TypeId} {size:Nat} {v:Value} (h:w.ownsRow base e size v n xs) (hb:base'≤base):w.ownsRow base' e size v n xs:=by
 refine⟨h.1,?_⟩
 rcases h.2 with hn|⟨g,cap,cur,rfl,hg,rest⟩
 ·exact .inl hn
 exact .inr ⟨g,cap,cur,rfl,Nat.le_trans hb hg,rest⟩
theorem aF {P:Program} (src dst e:TypeId) (hs:P.underlying src=some (.slice e)) (he:P.underlying e=some (.int .u8)) (hd:P.underlying dst=some .string) (L:List UInt8) (c:Nat) (h:aY w A n (ah L)):
  (convert src dst (.slice A n c)).run P w=.ok (.string (strOf L)) w:=by
 have hl:L.length=n:=by rw[←aI];exact h.1
 cases A with
 | none=>
  have h0:n=0:=by
   rcases Nat.eq_zero_or_pos n with h0|h0
   ·exact h0
   ·obtain⟨_,_,e,_⟩:=h.spot h0
    cases e
  subst h0
  obtain rfl:L=[]:=List.eq_nil_of_length_eq_zero hl
  rw[run_convert_bytes_string w src dst e none 0 c hs he hd]
  rfl
 | some a=>
  subst hl
  exact run_convert_bytes_back w src dst e a c L hs he hd (fun j hj=>by
   obtain⟨b,off,e,_,hc⟩:=h.2 j (by rw[aI];exact hj)
   injection e with e
   subst e
   have ha:(⟨b,off,none⟩:Addr).add j=⟨b,off+j,none⟩:=by
    unfold Addr.add
    split<;>simp_all
   rw[ha,hc]
   simp[ah])
end
section
variable {P:Program} {W w0:World} {ops:Array Oper} {rest:List Oper} {o:Oper} {a:Act} {Q:Exit→Act→World→Prop}
theorem aQ (hgd:o.guard=none) (s x:Operand) (t:TypeId) (ho:o.op=.call {callee:=.builtin .append,args:=#[s,x],argTypes:=#[t,t]})
  (B:Nat) (e:TypeId) (i:TypeInfo) (z:Value) (by_:Nat) (ht:P.underlying t=some (.slice e)) (hi:P.info? e=some i) (hz:i.zero=some z) (hsize:i.size=1) (hby:i.bytes=by_) (hzs:z.cells.size=1)
  (v:Value) (n:Nat) (xs:List Value) (hs:a.eval s=v) (hown:W.ownsRow B e 1 v n xs) (hbel:Below B w0 W) (hB:B≤W.heap.size)
  (news:List Value) (m:Nat) (hm:news.length=m) (hx:a.eval x=.slice (some ⟨W.heap.size,0,none⟩) m m) (h1:∀u ∈ news,u.oneCell'=true)
  (h63:n+m≤maxLen) (hbytes:(n+m)*by_≤140737488355328)
  (h:∀v' w',w'.ownsRow B e 1 v' (n+m) (xs++news)→Below B w0 w'→wpList P ops Q rest (a.put o.dst v') w'):
  wpList P ops Q (o::rest) a (W.alloc (.cells news.toArray e)):=by
 refine wpList_append_own _ hgd s x t ho B e i z 1 by_ ht hi hz hsize hby hzs (by decide) v n xs hs (hown.alloc _) ⟨W.heap.size,0,none⟩ m m news hx (by omega) (fun j u hj=>?_) h1 h63 hbytes (by simp;omega) (fun v' w' h2 h3 _=>h v' w' h2 ?_)
 ·rw[Xd,World.cell?_alloc_mark]
  simpa using hj
 ·exact(hbel.alloc hB _).grown h3 (by simp;omega) (fun g hg=>(hown.lt g hg).1)
theorem RS {K:Act→World→Prop} {E:Prop} (hgd:o.guard=none) (s x:Operand) (t:TypeId) (ho:o.op=.call {callee:=.builtin .append,args:=#[s,x],argTypes:=#[t,t]})
  (B:Nat) (e:TypeId) (i:TypeInfo) (z:Value) (by_:Nat) (ht:P.underlying t=some (.slice e)) (hi:P.info? e=some i) (hz:i.zero=some z) (hsize:i.size=1) (hby:i.bytes=by_) (hzs:z.cells.size=1)
  (v:Value) (n:Nat) (xs:List Value) (hs:a.eval s=v) (hown:W.ownsRow B e 1 v n xs) (hbel:Below B w0 W) (hB:B≤W.heap.size)
  (news:List Value) (m:Nat) (hm:news.length=m) (hm0:0<m) (hx:a.eval x=.slice (some ⟨W.heap.size,0,none⟩) m m) (h1:∀u ∈ news,u.oneCell'=true)
  (h63:n+m≤maxLen) (hbytes:(n+m)*by_≤140737488355328) {wq:World} (hwq:Below B (W.alloc (.cells news.toArray e)) wq∧(∀b:Nat,wq.heap[b]?=(W.alloc (.cells news.toArray e)).heap[b]?)∧wq.heap.size=W.heap.size+1)
  (h:∀v' w',w'.ownsRow B e 1 v' (n+m) (xs++news)→Below B w0 w'→K (a.put o.dst v') w'):
  if Region.wanted o (yielded ops a.tmps)=true then Oper.wp P o a wq K Q else E:=by
 have hgr:Below (W.alloc (.cells news.toArray e)).heap.size (W.alloc (.cells news.toArray e)) wq:=⟨hwq.1.os,hwq.1.tape,hwq.1.output,hwq.1.size,fun k _=>hwq.2.1 k⟩
 have hown':wq.ownsRow B e 1 v n xs:=aP (hown.alloc _) hgr
 refine step_append_lies (w:=wq) hgd s x t ho B e i z 1 by_ ht hi hz hsize hby hzs (by decide) v n xs hs hown' ⟨W.heap.size,0,none⟩ m m news hx (by omega) (fun j u hj=>?_) h1 hm0 h63 hbytes (by omega) _ rfl (fun g cap w' h2 h3 _ _=>h _ w' h2 ?_)
 ·rw[Xd,World.cell?_of_block (w:=W.alloc (.cells news.toArray e)) (hwq.2.1 _),World.cell?_alloc_mark]
  simpa using hj
 ·exact((hbel.alloc hB _).trans hwq.1).grown h3 (by omega) (fun g hg=>(hown.lt g hg).1)
end
end Go.Proofs.YtgamccijegollaaGreatDoor.Base
namespace Go.Proofs.YtgamccijegollaaGreatDoor.Dp
open Go.RowKit Base
theorem qF (w:World) (L:List UInt8) (t:TypeId) (mk:Nat×Nat):aY (w.alloc (.cells (ah L).toArray t mk)) (some ⟨w.heap.size,0,none⟩) L.length (ah L):=
 aY.jF (aI L) (by simp) (fun j hj=>by
  rw[Nat.zero_add,World.cell?_alloc_mark]
  simp)
theorem fV (s:ByteArray) (cap:Nat) (w:World) (t:TypeId):aY (w.drew.alloc (.cells (bytesRow s cap) t ((bytesRow s cap).size,(bytesRow s cap).size+1))) (some ⟨w.heap.size,0,none⟩) s.size (ah s.data.toList):=
 aY.jF (by rw[aI];exact Array.length_toList) (by simp) (fun j hj=>by
  have hj':j<s.data.size:=by rw[aI,Array.length_toList]at hj;exact hj
  rw[Nat.zero_add]
  have e:w.heap.size=w.drew.heap.size:=rfl
  rw[e,World.cell?_alloc_mark,bytesRow_at s cap j hj']
  simp[ah])
theorem aci {P:Program} (X Y:List UInt8) (w:World) (h:X.length+Y.length≤9223372036854775807):(Op.stringOp .add (strOf X) (strOf Y)).run P w=.ok (.string (strOf (X++Y))) w:=by
 rw[run_string_add_sum w _ _ (by rw[o9,o9];exact h)]
 congr 2
theorem dL {P:Program} (a b:ByteArray) (w:World) (h:a.size+b.size≤9223372036854775807):(Op.stringOp .add a b).run P w=.ok (.string (strOf (a.data.toList++b.data.toList))) w:=by
 rw[run_string_add_sum w _ _ h]
 congr 3
theorem bel {w0 w w':World} (h:Below w0.heap.size w0 w) (hb:Below w.heap.size w w'):Below w0.heap.size w0 w':=h.trans (hb.mono h.size)
theorem CY {w0 w w':World} (h:Below w0.heap.size w0 w) (hb:Below w.drew.heap.size w.drew w'):Below w0.heap.size w0 w':=h.drew.trans (hb.mono h.size)
end Go.Proofs.YtgamccijegollaaGreatDoor.Dp
namespace Go.Proofs.YtgamccijegollaaGreatDoor.acj
open Go.RowKit Base Dp
section
variable {P:Program} {W w0:World} {ops:Array Oper} {rest:List Oper} {o:Oper} {a:Act} {Q:Exit→Act→World→Prop}
theorem abv (base:Nat) (t ty e:TypeId) (i:TypeInfo) (size c:Nat) (ht:P.underlying t=some (.slice e)) (hi:P.info? e=some i) (v:Value) (n:Nat) (xs:List Value) (hown:W.ownsRow base e size v n xs):
  (Builtin.append_ #[t,t] ty #[v,.slice none 0 c]).run P W=.ok v W:=by
 rcases hown.2 with⟨rfl,rfl⟩|⟨g,cap,cur,rfl,_,_,hnc,_⟩
 ·simp[Builtin.append_,run_underlying ht,sizeOf,typeInfo,hi,Builtin.lenOf,Builtin.firstCells]
 ·simp[Builtin.append_,run_underlying ht,sizeOf,typeInfo,hi,Builtin.lenOf,Builtin.firstCells,hnc,storeCells]
theorem dH (hgd:o.guard=none) (s x:Operand) (t:TypeId) (ho:o.op=.call {callee:=.builtin .append,args:=#[s,x],argTypes:=#[t,t]})
  (B:Nat) (e:TypeId) (i:TypeInfo) (z:Value) (by_:Nat) (ht:P.underlying t=some (.slice e)) (hi:P.info? e=some i) (hz:i.zero=some z) (hsize:i.size=1) (hby:i.bytes=by_) (hzs:z.cells.size=1)
  (v:Value) (n:Nat) (xs:List Value) (hs:a.eval s=v) (hown:W.ownsRow B e 1 v n xs) (hbel:Below B w0 W) (hB:B≤W.heap.size)
  (A:Option Addr) (m c:Nat) (news:List Value) (hx:a.eval x=.slice A m c) (hr:aY W A m news) (h1:∀u ∈ news,u.oneCell'=true)
  (h63:n+m≤maxLen) (hbytes:(n+m)*by_≤140737488355328)
  (h:∀v' w',w'.ownsRow B e 1 v' (n+m) (xs++news)→Below B w0 w'→wpList P ops Q rest (a.put o.dst v') w'):
  wpList P ops Q (o::rest) a W:=by
 cases A with
 | none=>
  have hm:m=0:=by
   rcases Nat.eq_zero_or_pos m with h0|h0
   ·exact h0
   ·obtain⟨_,_,e,_⟩:=hr.spot h0
    cases e
  subst hm
  have hn:news=[]:=List.eq_nil_of_length_eq_zero hr.1
  subst hn
  have hh:=h v W (by simpa using hown) hbel
  refine wpList_plain hgd fun K hK=>?_
  have hrun:=abv (P:=P) (W:=W) B t o.type e i 1 c ht hi v n xs hown
  unfold Oper.wp
  simp[execOp,ho,resolve,invoke,builtin,hs,hx,hrun,Result.andThen]
  exact hK _ _ hh
 |some ad=>
  refine wpList_append_own _ hgd s x t ho B e i z 1 by_ ht hi hz hsize hby hzs (by decide) v n xs hs hown ad m c news hx (by rw[hr.1,Nat.mul_one]) (fun j u hj=>?_) h1 h63 hbytes hB (fun v' w' h2 h3 _=>h v' w' h2 (hbel.grown h3 hB (fun g hg=>(hown.lt g hg).1)))
  obtain⟨hj',e⟩:=List.getElem?_eq_some_iff.1 hj
  obtain⟨b,off,e1,_,hc⟩:=hr.2 j hj'
  injection e1 with e1
  subst e1
  have ha:(⟨b,off,none⟩:Addr).add j=⟨b,off+j,none⟩:=by
   unfold Addr.add
   split<;>simp_all
  rw[ha,hc,e]
end
end Go.Proofs.YtgamccijegollaaGreatDoor.acj
namespace Go.Proofs.YtgamccijegollaaGreatDoor.L6
open Go.RowKit Base
structure Keep where
 says:Value→World→Prop
 stays:∀v w w',Below w.heap.size w w'→says v w→says v w'
def is (v:Value):Keep:=⟨fun u _=>u=v,fun _ _ _ _ h=>h⟩
def any:Keep:=⟨fun _ _=>True,fun _ _ _ _ h=>h⟩
def row (n:Nat) (xs:List Value):Keep:=⟨fun u w=>∃A c,u=.slice A n c∧n≤c∧c≤maxLen∧aY w A n xs,fun _ _ _ hb ⟨A,c,h1,h2,h3,h4⟩=>⟨A,c,h1,h2,h3,h4.below hb⟩⟩
def pick:List Keep→Nat→Keep
 |[],_=>any
 |r::_,0=>r
 |_::rs,n+1=>pick rs n
def upd (t:Nat→Value) (i:Nat) (v:Value) (k:Nat):Value:=if k=i then v else t k
def filled (t:Nat→Value):List Oper→Nat→Act→Act
 |[],_,a=>a
 |o::os,k,a=>filled t os (k+1) (a.put o.dst (t k))
def Have (R:List Keep) (t:Nat→Value) (w:World):List Nat→Prop
 |[]=>True
 |k::ks=>(pick R k).says (t k) w∧Have R t w ks
section
variable {P:Program} {md:Region.Mode} {ops:Array Oper} {Q:Exit→Act→World→Prop}
def Step (P:Program) (ops:Array Oper) (Q:Exit→Act→World→Prop) (A:(Nat→Value)→Act) (w0:World) (R:List Keep) (i:Nat) (o:Oper) (ns:List Nat):Prop:=
 ∀t w,Below w0.heap.size w0 w→Have R t w ns→∀K:Act→World→Prop,(∀v w',Below w.heap.size w w'→(pick R i).says v w'→K (A (upd t i v)) w')→
  if Region.wanted o (yielded ops (A t).tmps)=true then Oper.wp P o (A t) w K Q else K ((A t).put o.dst undef) w
def Steps (P:Program) (ops:Array Oper) (Q:Exit→Act→World→Prop) (A:(Nat→Value)→Act) (w0:World) (R:List Keep):Nat→List Oper→List (List Nat)→Prop
 |_,[],_=>True
 |k,o::os,ns=>Step P ops Q A w0 R k o (ns.headD [])∧Steps P ops Q A w0 R (k+1) os ns.tail
theorem Steps.at {A:(Nat→Value)→Act} {w0:World} {R:List Keep}:∀(os:List Oper) (k:Nat) (ns:List (List Nat)),Steps P ops Q A w0 R k os ns→∀j o,os[j]?=some o→Step P ops Q A w0 R (k+j) o (ns.getD j [])
 |[],_,_,_,j,o,h=>by simp at h
 |p::os,k,ns,h,0,o,e=>by
  simp at e
  subst e
  cases ns<;>exact h.1
 |p::os,k,ns,h,j+1,o,e=>by
  have:=Steps.at os (k+1) ns.tail h.2 j o (by simpa using e)
  rw[Nat.add_assoc,Nat.add_comm 1 j]at this
  cases ns<;>simpa using this
def DF (md:Region.Mode) (ops:Array Oper) (ns:List (List Nat)):Bool:=
 (List.range ops.size).all fun i=>match ops[i]? with
  |none=>false
  |some o=>(o.after.all fun e=> !Region.binds md e||decide (e.on<i))&&(ns.getD i []).all fun k=>o.after.any fun e=>Region.binds md e&&(e.on==k||(ns.getD e.on []).contains k)
theorem vK {ns:List (List Nat)} (h:DF md ops ns=true) {i:Nat} {o:Oper} (ho:ops[i]?=some o):(∀e ∈ o.after,Region.binds md e=true→e.on<i)∧∀k ∈ ns.getD i [],∃e ∈ o.after,Region.binds md e=true∧(e.on=k∨k ∈ ns.getD e.on []):=by
 have h1:=List.all_eq_true.1 h i (by simp only[List.mem_range];exact(Array.getElem?_eq_some_iff.1 ho).1)
 simp only[ho,Bool.and_eq_true]at h1
 obtain⟨h1,h2⟩:=h1
 constructor
 ·intro e he hb
  have:=Array.all_eq_true_iff_forall_mem.1 h1 e he
  simpa[hb]using this
 intro k hk
 have:=List.all_eq_true.1 h2 k hk
 obtain⟨e,he,h3⟩:=Array.any_eq_true'.1 this
 simp only[Bool.and_eq_true,Bool.or_eq_true,beq_iff_eq,List.contains_iff_mem]at h3
 exact⟨e,he,h3.1,h3.2⟩
def YV (ops:Array Oper) (listed:Array Bool):Nat:=(List.range ops.size).countP fun i=> !listed.getD i true
theorem wP {l:Array Bool} {i:Nat} (h:i<l.size) (d d':Bool):l.getD i d=l.getD i d':=by simp[Array.getD,h]
structure Inv (ops:Array Oper) (w0:World) (R:List Keep) (ns:List (List Nat)) (listed:Array Bool) (t:Nat→Value) (w:World):Prop where
 below:Below w0.heap.size w0 w
 size:listed.size=ops.size
 held:∀i,listed.getD i false=true→(pick R i).says (t i) w∧∀k ∈ ns.getD i [],listed.getD k false=true
theorem o8 {R:List Keep} {t:Nat→Value} {w:World}:∀ks:List Nat,(∀k ∈ ks,(pick R k).says (t k) w)→Have R t w ks
 |[],_=>trivial
 |k::ks,h=>⟨h k (by simp),o8 ks fun j hj=>h j (by simp[hj])⟩
theorem aB {R:List Keep} {t:Nat→Value} {w:World} {n:Nat} (h:Have R t w (List.range n)) (k:Nat) (hk:k<n):(pick R k).says (t k) w:=by
 have H:∀ks:List Nat,Have R t w ks→∀k ∈ ks,(pick R k).says (t k) w:=by
  intro ks
  induction ks with
  |nil=>intro _ k hk;cases hk
  |cons x xs ih=>
   intro h k hk
   rcases List.mem_cons.1 hk with rfl|hk
   ·exact h.1
   exact ih h.2 k hk
 exact H _ h k (by simpa using hk)
theorem uU {ns:List (List Nat)} (hB:DF md ops ns=true) {listed:Array Bool} (hs:listed.size=ops.size) (hr:Region.ready md ops listed=[]):∀n i,i<n→i<ops.size→listed.getD i false=true:=by
 intro n
 induction n with
 |zero=>intro i h;omega
 |succ n ih=>
  intro i hi hlt
  by_cases hn:listed.getD i false=true
  ·exact hn
  exfalso
  have ho:ops[i]?=some ops[i]:=Array.getElem?_eq_getElem hlt
  have:i ∈ Region.ready md ops listed:=mem_ready.2 ⟨by rw[wP (by omega) true false];simpa using hn,_,ho,fun e he hb=>by
   have:=(vK hB ho).1 e he hb
   exact ih e.on (by omega) (by omega)⟩
  rw[hr]at this
  cases this
theorem countP_set {listed:Array Bool} {i:Nat} (hs:listed.size=ops.size) (hi:i<ops.size) (hu:listed.getD i true=false):YV ops (listed.setIfInBounds i true)<YV ops listed:=by
 unfold YV
 have key:∀l:List Nat,l.countP (fun j=> !(listed.setIfInBounds i true).getD j true)≤l.countP (fun j=> !listed.getD j true)∧(i ∈ l→l.countP (fun j=> !(listed.setIfInBounds i true).getD j true)<l.countP (fun j=> !listed.getD j true)):=by
  intro l
  induction l with
  |nil=>simp
  |cons x l ih=>
   have hx:x=i∨x≠i:=Decidable.em _
   rcases hx with rfl|hx
   ·have h1:(listed.setIfInBounds x true).getD x true=true:=by simp[Array.getD]
    rw[List.countP_cons,List.countP_cons,h1,hu]
    simp only[Bool.not_true,Bool.not_false,Bool.false_eq_true,if_true,if_false]
    have:=ih.1
    exact⟨by omega,fun _=>by omega⟩
   have h1:(listed.setIfInBounds i true).getD x true=listed.getD x true:=getD_set_ne true (Ne.symm hx)
   rw[List.countP_cons,List.countP_cons,h1]
   refine⟨by omega,fun h=>?_⟩
   rcases List.mem_cons.1 h with h|h
   ·exact absurd h.symm hx
   have:=ih.2 h
   omega
 exact(key _).2 (by simpa using hi)
theorem aiZ {A:(Nat→Value)→Act} {w0:World} {R:List Keep} {ns:List (List Nat)} (hB:DF md ops ns=true) (steps:Steps P ops Q A w0 R 0 ops.toList ns)
  (fin:∀t w,Below w0.heap.size w0 w→Have R t w (List.range ops.size)→Q .normal (A t) w):
  ∀(fuel:Nat) (listed:Array Bool) (t:Nat→Value) (w:World),Inv ops w0 R ns listed t w→YV ops listed≤fuel→wpAny P md ops Q fuel listed (A t) w:=by
 have done:∀(listed:Array Bool) (t:Nat→Value) (w:World),Inv ops w0 R ns listed t w→Region.ready md ops listed=[]→Q .normal (A t) w:=fun listed t w h hr=>
  fin t w h.below (o8 _ fun k hk=>(h.held k (uU hB h.size hr (k+1) k (by omega) (by simpa using hk))).1)
 intro fuel
 induction fuel with
 | zero=>
  intro listed t w h hu
  have hr:Region.ready md ops listed=[]:=by
   cases e:Region.ready md ops listed with
   |nil=>rfl
   |cons i l=>
    have hi:i ∈ Region.ready md ops listed:=by rw[e];simp
    obtain⟨h0,o,ho,_⟩:=mem_ready.1 hi
    have:=countP_set h.size (Array.getElem?_eq_some_iff.1 ho).1 h0
    omega
  exact⟨hr,done listed t w h hr⟩
 | succ fuel ih=>
  intro listed t w h hu
  refine⟨done listed t w h,fun i hi=>?_⟩
  obtain⟨h0,o,ho,hall⟩:=mem_ready.1 hi
  have hlt:=(Array.getElem?_eq_some_iff.1 ho).1
  have wQ:∀k ∈ ns.getD i [],listed.getD k false=true:=fun k hk=>by
   obtain⟨e,he,hb,hk⟩:=(vK hB ho).2 k hk
   rcases hk with rfl|hk
   ·exact hall e he hb
   ·exact(h.held e.on (hall e he hb)).2 k hk
  have hst:=Steps.at ops.toList 0 ns steps i o (by simpa using ho)
  rw[Nat.zero_add]at hst
  refine wpOp_step ho fun K hK=>hst t w h.below (o8 _ fun k hk=>(h.held k (wQ k hk)).1) K fun v w' hb hv=>hK _ _ (ih _ _ _ ⟨h.below.trans (hb.mono h.below.size),by simpa using h.size,fun j hj=>?_⟩ ?_)
  ·by_cases hji:j=i
   ·subst hji
    refine⟨by simpa[upd]using hv,fun k hk=>getD_set_true (wQ k hk)⟩
   ·rw[getD_set_ne false (Ne.symm hji)]at hj
    have:=h.held j hj
    refine⟨by simp only[upd,if_neg hji];exact(pick R j).stays _ _ _ hb this.1,fun k hk=>getD_set_true (this.2 k hk)⟩
  ·have:=countP_set h.size hlt h0
   omega
def now (ops:List Oper) (a:Act) (k:Nat):Value:=match (ops[k]?).bind (·.dst)with|some d=>a.tmps.getD d undef|none=>undef
theorem put_now (a:Act) (d:Option Tmp) (v:Value) (h:∀x,d=some x→v=a.tmps.getD x undef):a.put d v=a:=by
 cases d with
 |none=>rfl
 |some x=>
  have:=h x rfl
  subst this
  unfold Act.put
  simp only
  congr 1
  apply Array.ext_getElem?
  intro i
  by_cases hi:x=i
  ·subst hi
   by_cases hx:x<a.tmps.size
   ·simp[hx]
   simp[hx]
  rw[Array.getElem?_setIfInBounds_ne hi]
theorem uY (a:Act) (all:List Oper):∀(os:List Oper) (k:Nat),(∀j,os[j]?=all[k+j]?)→filled (now all a) os k a=a
 |[],_,_=>rfl
 |o::os,k,h=>by
  have h0:all[k]?=some o:=by simpa using(h 0).symm
  have e:a.put o.dst (now all a k)=a:=put_now a _ _ fun x hx=>by unfold now;rw[h0];simp[hx]
  show filled (now all a) os (k+1) (a.put o.dst (now all a k))=a
  rw[e]
  exact uY a all os (k+1) fun j=>by have:=h (j+1);simpa[Nat.add_assoc,Nat.add_comm 1 j]using this
theorem aV {id:Nat} {a:Act} {w:World} {l:List Oper} (hm:P.follows .mixedOrders=true) (R:List Keep) (ns:List (List Nat)) (hB:DF .any l.toArray ns=true)
  (steps:Steps P l.toArray Q (fun t=>filled t l 0 a) w R 0 l ns)
  (fin:∀t w',Below w.heap.size w w'→Have R t w' (List.range l.length)→Q .normal (filled t l 0 a) w'):(Code.region id l.toArray true).wp P Q a w:=by
 refine wp_region_any hm ?_
 have h:=aiZ (P:=P) (Q:=Q) (md:=.any) (ops:=l.toArray) (A:=fun t=>filled t l 0 a) (w0:=w) (R:=R) (ns:=ns) hB (by simpa using steps) (by simpa using fin) l.length (Array.replicate l.length false) (now l a) {w with drawn:=w.drawn+1}
  ⟨⟨rfl,rfl,rfl,Nat.le_refl _,fun _ _=>rfl⟩,by simp,fun i hi=>by
   by_cases h:i<l.length<;>simp[Array.getD,h]at hi⟩ (by unfold YV;refine Nat.le_trans List.countP_le_length ?_;simp)
 have e:=uY a l l 0 (fun j=>by simp)
 have h':wpAny P .any l.toArray Q l.length (Array.replicate l.length false) (filled (now l a) l 0 a) {w with drawn:=w.drawn+1}:=h
 rw[e]at h'
 simpa using h'
end
end Go.Proofs.YtgamccijegollaaGreatDoor.L6
namespace Go.Proofs.YtgamccijegollaaGreatDoor.L6
open Go.RowKit Base
theorem ext_take (s:ByteArray) (k:Nat):s.extract 0 k=strOf (s.data.toList.take k):=by
 apply ByteArray.ext
 apply Array.ext'
 rw[ByteArray.data_extract]
 simp[strOf,Array.toList_extract,List.extract_eq_take_drop]
theorem ext_drop (s:ByteArray) (k n:Nat) (h:n=s.size):s.extract k n=strOf (s.data.toList.drop k):=by
 subst h
 apply ByteArray.ext
 apply Array.ext'
 rw[ByteArray.data_extract]
 simp only[strOf,Array.toList_extract,List.extract_eq_take_drop]
 rw[List.take_of_length_le]
 rw[List.length_drop,Array.length_toList]
 exact Nat.le_refl _
theorem iC {e:Int} (h0: -9223372036854775808≤e) (h1:e≤9223372036854775807):Value.int .i64 (IntKind.i64.wrap e)=.int .i64 e:=by
 rw[IntKind.wrap_i64]
 congr 1
 omega
section
variable {P:Program} {md:Region.Mode} {ops:Array Oper} {Q:Exit→Act→World→Prop}
theorem qR {listed:Array Bool} {i:Nat} (hs:listed.size=ops.size) (hi:i<ops.size) (hu:listed.getD i true=false):YV ops (listed.setIfInBounds i true)+1=YV ops listed:=by
 unfold YV
 have key:∀l:List Nat,l.Nodup→(i ∉ l→l.countP (fun j=> !(listed.setIfInBounds i true).getD j true)=l.countP (fun j=> !listed.getD j true))∧(i ∈ l→l.countP (fun j=> !(listed.setIfInBounds i true).getD j true)+1=l.countP (fun j=> !listed.getD j true)):=by
  intro l
  induction l with
  |nil=>simp
  |cons x l ih=>
   intro hnd
   rw[List.nodup_cons]at hnd
   have hx:x=i∨x≠i:=Decidable.em _
   rcases hx with rfl|hx
   ·have h1:(listed.setIfInBounds x true).getD x true=true:=by simp[Array.getD]
    rw[List.countP_cons,List.countP_cons,h1,hu]
    simp only[Bool.not_true,Bool.not_false,Bool.false_eq_true,if_true,if_false]
    have:=(ih hnd.2).1 hnd.1
    exact⟨fun h=>absurd (List.mem_cons_self) h,fun _=>by omega⟩
   have h1:(listed.setIfInBounds i true).getD x true=listed.getD x true:=getD_set_ne true (Ne.symm hx)
   rw[List.countP_cons,List.countP_cons,h1]
   refine⟨fun h=>?_,fun h=>?_⟩
   ·have:=(ih hnd.2).1 (fun hm=>h (List.mem_cons_of_mem _ hm))
    omega
   rcases List.mem_cons.1 h with h|h
   ·exact absurd h.symm hx
   have:=(ih hnd.2).2 h
   omega
 exact(key _ List.nodup_range).2 (by simpa using hi)
def aj (t:Nat→Value):Nat→List Oper→Nat→Act→Act
 |0,_,_,a=>a
 |_+1,[],_,a=>a
 |n+1,o::os,k,a=>aj t n os (k+1) (a.put o.dst (t k))
theorem Aa (t:Nat→Value):∀(n:Nat) (os:List Oper) (k:Nat) (a:Act),aj t n os k a=filled t (os.take n) k a
 |0,_,_,_=>rfl
 |_+1,[],_,_=>rfl
 |n+1,o::os,k,a=>by
  show aj t n os (k+1) (a.put o.dst (t k))=_
  rw[Aa t n os]
  rfl
def anL (md:Region.Mode) (ops:Array Oper) (ns:List (List Nat)) (n:Nat):Bool:=
 decide (n<ops.size)&&DF md ops ns&&((List.range n).all fun k=>(ns.getD n []).contains k)&&
 ((List.range ops.size).all fun i=>decide (i≤n)||match ops[i]? with
  |none=>false
  |some o=>o.after.any fun e=>Region.binds md e&&decide (n≤e.on))&&
 Region.seqB md ops (ops.size - n) n (List.replicate n true++List.replicate (ops.size - n) false).toArray
structure InvT (ops:Array Oper) (w0:World) (R:List Keep) (ns:List (List Nat)) (n:Nat) (listed:Array Bool) (t:Nat→Value) (w:World):Prop extends Inv ops w0 R ns listed t w where
 tail:∀i,n≤i→listed.getD i false=false
theorem S9 {A:(Nat→Value)→Act} {w0:World} {R:List Keep} {ns:List (List Nat)} {n:Nat} (hB:anL md ops ns n=true) (steps:Steps P ops Q A w0 R 0 (ops.toList.take n) ns)
  (fin:∀t w,Below w0.heap.size w0 w→Have R t w (List.range n)→wpList P ops Q (ops.toList.drop n) (A t) w):
  ∀(fuel:Nat) (listed:Array Bool) (t:Nat→Value) (w:World),InvT ops w0 R ns n listed t w→YV ops listed=fuel→wpAny P md ops Q fuel listed (A t) w:=by
 unfold anL at hB
 simp only[Bool.and_eq_true,decide_eq_true_eq]at hB
 obtain⟨⟨⟨⟨hn,hN⟩,hall⟩,hch⟩,hseq⟩:=hB
 -- all of the head is listed:the tail,in its order
 have done : ∀ (fuel : Nat) (listed : Array Bool) (t : Nat → Value) (w : World), InvT ops w0 R ns n listed t w → YV ops listed = fuel → (∀ i, i < n → listed.getD i false = true) → wpAny P md ops Q fuel listed (A t) w := by
  intro fuel listed t w h hu hl
  have he:listed=(List.replicate n true++List.replicate (ops.size - n) false).toArray:=by
   apply Array.ext
   ·simp[h.size];omega
   ·intro i h1 h2
    have hsz:=h.size
    simp only[List.getElem_toArray]
    by_cases hi:i<n
    ·have:=hl i hi
     simp[Array.getD,h1]at this
     rw[List.getElem_append_left (by simpa using hi)]
     simpa using this
    ·have:=h.tail i (by omega)
     simp[Array.getD,h1]at this
     rw[List.getElem_append_right (by simpa using hi)]
     simpa using this
  have hf:fuel=(ops.toList.drop n).length:=by
   rw[←hu]
   unfold YV
   have e:ops.size=n+(ops.size - n):=by omega
   rw[e,List.range_add,List.countP_append]
   have z1:(List.range n).countP (fun i=> !listed.getD i true)=0:=by
    rw[List.countP_eq_zero]
    intro i hi
    have hin:=List.mem_range.1 hi
    rw[wP (by rw[h.size];omega) true false,hl i hin]
    decide
   have z2:((List.range (ops.size - n)).map (n+·)).countP (fun i=> !listed.getD i true)=((List.range (ops.size - n)).map (n+·)).length:=by
    rw[List.countP_eq_length]
    intro i hi
    obtain⟨j,hj,rfl⟩:=List.mem_map.1 hi
    have hjn:=List.mem_range.1 hj
    rw[wP (by rw[h.size];omega) true false,h.tail (n+j) (by omega)]
    rfl
   rw[z1,z2]
   simp
  have hw:=fin t w h.below (o8 _ fun k hk=>(h.held k (hl k (by simpa using hk))).1)
  rw[hf]
  refine wpAny_of_seq (md:=md) (ops.toList.drop n) n listed (A t) w (fun j=>by simp[List.getElem?_drop]) ?_ hw
  rw[he]
  simpa using hseq
 intro fuel
 induction fuel with
 |zero=>
  intro listed t w h hu
  refine done 0 listed t w h hu fun i hi=>?_
  cases e:listed.getD i false with
  |true=>rfl
  |false=>
   have:=qR h.size (show i<ops.size by omega) (by rw[wP (by rw[h.size];omega) true false];exact e)
   omega
 | succ fuel ih=>
  intro listed t w h hu
  by_cases hl:∀i,i<n→listed.getD i false=true
  ·exact done (fuel+1) listed t w h hu hl
  have hr0:Region.ready md ops listed≠[]:=fun hr=>hl fun i hi=>uU hN h.size hr (i+1) i (by omega) (by omega)
  refine⟨fun h0=>absurd h0 hr0,fun i hi=>?_⟩
  obtain⟨h0,o,ho,hafter⟩:=mem_ready.1 hi
  have hlt:=(Array.getElem?_eq_some_iff.1 ho).1
  have wQ:∀k ∈ ns.getD i [],listed.getD k false=true:=fun k hk=>by
   obtain⟨e,he,hb,hk⟩:=(vK hN ho).2 k hk
   rcases hk with rfl|hk
   ·exact hafter e he hb
   ·exact(h.held e.on (hafter e he hb)).2 k hk
  have hin:i<n:=by
   rcases Nat.lt_trichotomy i n with hlt'|rfl|hgt
   ·exact hlt'
   ·exact absurd (fun k hk=>wQ k (by
     have:=List.all_eq_true.1 hall k (List.mem_range.2 hk)
     simpa using this)) hl
   ·have h1:=List.all_eq_true.1 hch i (List.mem_range.2 hlt)
    simp only[ho,Bool.or_eq_true,decide_eq_true_eq]at h1
    rcases h1 with h1|h1
    ·omega
    ·obtain⟨e,he,hb⟩:=Array.any_eq_true'.1 h1
     simp only[Bool.and_eq_true,decide_eq_true_eq]at hb
     have h2:=hafter e he hb.1
     rw[h.tail e.on hb.2]at h2
     cases h2
  have hst:=Steps.at (ops.toList.take n) 0 ns steps i o (by rw[List.getElem?_take,if_pos hin];simpa using ho)
  rw[Nat.zero_add]at hst
  refine wpOp_step ho fun K hK=>hst t w h.below (o8 _ fun k hk=>(h.held k (wQ k hk)).1) K fun v w' hb hv=>hK _ _ (ih _ _ _ ⟨⟨h.below.trans (hb.mono h.below.size),by simpa using h.size,fun j hj=>?_⟩,fun j hj=>?_⟩ ?_)
  ·by_cases hji:j=i
   ·subst hji
    refine⟨by simpa[upd]using hv,fun k hk=>getD_set_true (wQ k hk)⟩
   ·rw[getD_set_ne false (Ne.symm hji)]at hj
    have:=h.held j hj
    refine⟨by simp only[upd,if_neg hji];exact(pick R j).stays _ _ _ hb this.1,fun k hk=>getD_set_true (this.2 k hk)⟩
  ·rw[getD_set_ne false (by omega)]
   exact h.tail j hj
  ·have:=qR h.size hlt h0
   omega
theorem bC {id:Nat} {a:Act} {w:World} {l:List Oper} (hm:P.follows .mixedOrders=true) (n:Nat) (R:List Keep) (ns:List (List Nat)) (hB:anL .any l.toArray ns n=true)
  (steps:Steps P l.toArray Q (fun t=>aj t n l 0 a) w R 0 (l.take n) ns)
  (fin:∀t w',Below w.heap.size w w'→Have R t w' (List.range n)→wpList P l.toArray Q (l.drop n) (aj t n l 0 a) w'):(Code.region id l.toArray true).wp P Q a w:=by
 refine wp_region_any hm ?_
 have h:=S9 (P:=P) (Q:=Q) (md:=.any) (ops:=l.toArray) (A:=fun t=>aj t n l 0 a) (w0:=w) (R:=R) (ns:=ns) (n:=n) hB (by simpa using steps) (by simpa using fin) l.length (Array.replicate l.length false) (now (l.take n) a) {w with drawn:=w.drawn+1}
  ⟨⟨⟨rfl,rfl,rfl,Nat.le_refl _,fun _ _=>rfl⟩,by simp,fun i hi=>by
   by_cases h:i<l.length<;>simp[Array.getD,h]at hi⟩,fun i _=>by by_cases h:i<l.length<;>simp[Array.getD,h]⟩ (by
   unfold YV
   have:(List.range l.toArray.size).countP (fun i=> !(Array.replicate l.length false).getD i true)=(List.range l.toArray.size).length:=by
    rw[List.countP_eq_length]
    intro i hi
    have hi':i<l.length:=by simpa using hi
    simp[Array.getD,hi']
   rw[this]
   simp)
 have e:aj (now (l.take n) a) n l 0 a=a:=by rw[Aa];exact uY a (l.take n) (l.take n) 0 (fun j=>by simp)
 have h':wpAny P .any l.toArray Q l.length (Array.replicate l.length false) (aj (now (l.take n) a) n l 0 a) {w with drawn:=w.drawn+1}:=h
 rw[e]at h'
 simpa using h'
end
end Go.Proofs.YtgamccijegollaaGreatDoor.L6
namespace Go.Proofs.YtgamccijegollaaGreatDoor.L6
open Go.RowKit Base
section
variable {P:Program} {md:Region.Mode} {ops:Array Oper} {Q:Exit→Act→World→Prop}
def YA (md:Region.Mode) (ops:Array Oper) (ns:List (List Nat)) (n:Nat) (pre:List Nat):Bool:=
 decide (n<ops.size)&&DF md ops ns&&((List.range n).all fun k=>pre.contains k||(ns.getD n []).contains k)&&
 ((List.range ops.size).all fun i=>decide (i≤n)||match ops[i]? with
  |none=>false
  |some o=>o.after.any fun e=>Region.binds md e&&decide (n≤e.on))&&
 Region.seqB md ops (ops.size - n) n (List.replicate n true++List.replicate (ops.size - n) false).toArray
theorem SY {A:(Nat→Value)→Act} {w0:World} {R:List Keep} {ns:List (List Nat)} {n:Nat} {pre:List Nat} (hB:YA md ops ns n pre=true) (steps:Steps P ops Q A w0 R 0 (ops.toList.take n) ns)
  (fin:∀t w,Below w0.heap.size w0 w→Have R t w (List.range n)→wpList P ops Q (ops.toList.drop n) (A t) w):
  ∀(fuel:Nat) (listed:Array Bool) (t:Nat→Value) (w:World),InvT ops w0 R ns n listed t w→(∀k ∈ pre,listed.getD k false=true)→YV ops listed=fuel→wpAny P md ops Q fuel listed (A t) w:=by
 unfold YA at hB
 simp only[Bool.and_eq_true,decide_eq_true_eq]at hB
 obtain⟨⟨⟨⟨hn,hN⟩,hall⟩,hch⟩,hseq⟩:=hB
 -- all of the head is listed:the tail,in its order
 have done : ∀ (fuel : Nat) (listed : Array Bool) (t : Nat → Value) (w : World), InvT ops w0 R ns n listed t w → YV ops listed = fuel → (∀ i, i < n → listed.getD i false = true) → wpAny P md ops Q fuel listed (A t) w := by
  intro fuel listed t w h hu hl
  have he:listed=(List.replicate n true++List.replicate (ops.size - n) false).toArray:=by
   apply Array.ext
   ·simp[h.size];omega
   ·intro i h1 h2
    have hsz:=h.size
    simp only[List.getElem_toArray]
    by_cases hi:i<n
    ·have:=hl i hi
     simp[Array.getD,h1]at this
     rw[List.getElem_append_left (by simpa using hi)]
     simpa using this
    ·have:=h.tail i (by omega)
     simp[Array.getD,h1]at this
     rw[List.getElem_append_right (by simpa using hi)]
     simpa using this
  have hf:fuel=(ops.toList.drop n).length:=by
   rw[←hu]
   unfold YV
   have e:ops.size=n+(ops.size - n):=by omega
   rw[e,List.range_add,List.countP_append]
   have z1:(List.range n).countP (fun i=> !listed.getD i true)=0:=by
    rw[List.countP_eq_zero]
    intro i hi
    have hin:=List.mem_range.1 hi
    rw[wP (by rw[h.size];omega) true false,hl i hin]
    decide
   have z2:((List.range (ops.size - n)).map (n+·)).countP (fun i=> !listed.getD i true)=((List.range (ops.size - n)).map (n+·)).length:=by
    rw[List.countP_eq_length]
    intro i hi
    obtain⟨j,hj,rfl⟩:=List.mem_map.1 hi
    have hjn:=List.mem_range.1 hj
    rw[wP (by rw[h.size];omega) true false,h.tail (n+j) (by omega)]
    rfl
   rw[z1,z2]
   simp
  have hw:=fin t w h.below (o8 _ fun k hk=>(h.held k (hl k (by simpa using hk))).1)
  rw[hf]
  refine wpAny_of_seq (md:=md) (ops.toList.drop n) n listed (A t) w (fun j=>by simp[List.getElem?_drop]) ?_ hw
  rw[he]
  simpa using hseq
 intro fuel
 induction fuel with
 |zero=>
  intro listed t w h _ hu
  refine done 0 listed t w h hu fun i hi=>?_
  cases e:listed.getD i false with
  |true=>rfl
  |false=>
   have:=qR h.size (show i<ops.size by omega) (by rw[wP (by rw[h.size];omega) true false];exact e)
   omega
 | succ fuel ih=>
  intro listed t w h hpre hu
  by_cases hl:∀i,i<n→listed.getD i false=true
  ·exact done (fuel+1) listed t w h hu hl
  have hr0:Region.ready md ops listed≠[]:=fun hr=>hl fun i hi=>uU hN h.size hr (i+1) i (by omega) (by omega)
  refine⟨fun h0=>absurd h0 hr0,fun i hi=>?_⟩
  obtain⟨h0,o,ho,hafter⟩:=mem_ready.1 hi
  have hlt:=(Array.getElem?_eq_some_iff.1 ho).1
  have wQ:∀k ∈ ns.getD i [],listed.getD k false=true:=fun k hk=>by
   obtain⟨e,he,hb,hk⟩:=(vK hN ho).2 k hk
   rcases hk with rfl|hk
   ·exact hafter e he hb
   ·exact(h.held e.on (hafter e he hb)).2 k hk
  have hin:i<n:=by
   rcases Nat.lt_trichotomy i n with hlt'|rfl|hgt
   ·exact hlt'
   ·exact absurd (fun k hk=>by
     have h1:=List.all_eq_true.1 hall k (List.mem_range.2 hk)
     simp only[Bool.or_eq_true,List.contains_iff_mem]at h1
     exact h1.elim (fun h1=>hpre k h1) (fun h1=>wQ k h1)) hl
   ·have h1:=List.all_eq_true.1 hch i (List.mem_range.2 hlt)
    simp only[ho,Bool.or_eq_true,decide_eq_true_eq]at h1
    rcases h1 with h1|h1
    ·omega
    ·obtain⟨e,he,hb⟩:=Array.any_eq_true'.1 h1
     simp only[Bool.and_eq_true,decide_eq_true_eq]at hb
     have h2:=hafter e he hb.1
     rw[h.tail e.on hb.2]at h2
     cases h2
  have hst:=Steps.at (ops.toList.take n) 0 ns steps i o (by rw[List.getElem?_take,if_pos hin];simpa using ho)
  rw[Nat.zero_add]at hst
  refine wpOp_step ho fun K hK=>hst t w h.below (o8 _ fun k hk=>(h.held k (wQ k hk)).1) K fun v w' hb hv=>hK _ _ (ih _ _ _ ⟨⟨h.below.trans (hb.mono h.below.size),by simpa using h.size,fun j hj=>?_⟩,fun j hj=>?_⟩ (fun k hk=>getD_set_true (hpre k hk)) ?_)
  ·by_cases hji:j=i
   ·subst hji
    refine⟨by simpa[upd]using hv,fun k hk=>getD_set_true (wQ k hk)⟩
   ·rw[getD_set_ne false (Ne.symm hji)]at hj
    have:=h.held j hj
    refine⟨by simp only[upd,if_neg hji];exact(pick R j).stays _ _ _ hb this.1,fun k hk=>getD_set_true (this.2 k hk)⟩
  ·rw[getD_set_ne false (by omega)]
   exact h.tail j hj
  ·have:=qR h.size hlt h0
   omega
def anE (k:Nat) (listed:Array Bool) (ns:List (List Nat)) (n:Nat) (pre:List Nat):Bool:=
 decide (listed.size=k)&&((List.range k).all fun i=>listed.getD i false==pre.contains i)&&(pre.all fun i=>decide (i<n)&&(ns.getD i []).all fun j=>pre.contains j)
theorem ab7 {l:List Oper} {a:Act} {w:World} (n:Nat) (R:List Keep) (ns:List (List Nat)) (pre:List Nat) {listed:Array Bool} {fuel:Nat} (hB:YA .any l.toArray ns n pre=true) (hS:anE l.length listed ns n pre=true) (hF:YV l.toArray listed=fuel)
  (h0:∀k ∈ pre,(pick R k).says (now (l.take n) a k) w)
  (steps:Steps P l.toArray Q (fun t=>aj t n l 0 a) w R 0 (l.take n) ns)
  (fin:∀t w',Below w.heap.size w w'→Have R t w' (List.range n)→wpList P l.toArray Q (l.drop n) (aj t n l 0 a) w'):wpAny P .any l.toArray Q fuel listed a w:=by
 unfold anE at hS
 simp only[Bool.and_eq_true,decide_eq_true_eq]at hS
 obtain⟨⟨hsz,hl⟩,hp⟩:=hS
 have hin:∀i,listed.getD i false=pre.contains i:=fun i=>by
  by_cases hi:i<l.length
  ·have:=List.all_eq_true.1 hl i (List.mem_range.2 hi)
   simpa using this
  ·have h1:listed.getD i false=false:=by simp[Array.getD,hsz,hi]
   have h2:pre.contains i=false:=by
    cases e:pre.contains i with
    |false=>rfl
    |true=>
     have:=List.all_eq_true.1 hp i (by simpa using e)
     simp only[Bool.and_eq_true,decide_eq_true_eq]at this
     have hn:n<l.toArray.size:=by
      unfold YA at hB
      simp only[Bool.and_eq_true,decide_eq_true_eq]at hB
      exact hB.1.1.1.1
     simp at hn
     omega
   rw[h1,h2]
 have h := SY (P := P) (Q := Q) (md := .any) (ops := l.toArray) (A := fun t => aj t n l 0 a) (w0 := w) (R := R) (ns := ns) (n := n) (pre := pre) hB (by simpa using steps) (by simpa using fin) fuel listed (now (l.take n) a) w
  ⟨⟨Below.refl _ _,by simpa using hsz,fun i hi=>by
   rw[hin]at hi
   have hm:i ∈ pre:=by simpa using hi
   have:=List.all_eq_true.1 hp i hm
   simp only[Bool.and_eq_true,decide_eq_true_eq]at this
   exact⟨h0 i hm,fun k hk=>by rw[hin];exact List.all_eq_true.1 this.2 k hk⟩⟩,fun i hi=>by
    rw[hin]
    cases e:pre.contains i with
    |false=>rfl
    |true=>
     have:=List.all_eq_true.1 hp i (by simpa using e)
     simp only[Bool.and_eq_true,decide_eq_true_eq]at this
     omega⟩ (fun k hk=>by rw[hin];simpa using hk) hF
 have e:aj (now (l.take n) a) n l 0 a=a:=by rw[Aa];exact uY a (l.take n) (l.take n) 0 (fun j=>by simp)
 have h':wpAny P .any l.toArray Q fuel listed (aj (now (l.take n) a) n l 0 a) w:=h
 rwa[e]at h'
end
end Go.Proofs.YtgamccijegollaaGreatDoor.L6
namespace Go.Proofs.YtgamccijegollaaGreatDoor.uw
open Go.RowKit Base Dp acj L6
def nT (g:Nat):Value:=.pointer (some ⟨g,0,none⟩)
section
variable {α:Type} (enc:α→Value)
def flat (l:List (Nat×α)):List Value:=l.flatMap fun p=>[.int .i64 (p.1:Int),enc p.2]
end
def Ny (T E:TypeId) {α:Type} (enc:α→Value) (B g room last:Nat) (l:List (Nat×α)) (w:World):Prop:=∃v,w.heap[g]?=some (.cells #[.int .i64 (room:Int),.int .i64 (last:Int),v] T (0,0))∧w.ownsRow B E 2 v l.length (flat enc l)∧B≤g
section
variable {T E:TypeId} {α:Type} {enc:α→Value} {B g room last:Nat} {l:List (Nat×α)} {w w':World}
theorem Ny.lt (h:Ny T E enc B g room last l w):g<w.heap.size:=by obtain⟨v,h,_⟩:=h;exact(Array.getElem?_eq_some_iff.1 h).1
theorem Ny.below (h:Ny T E enc B g room last l w) (hb:Below w.heap.size w w'):Ny T E enc B g room last l w':=by
 have hl:=h.lt
 obtain⟨v,h1,h2,h3⟩:=h
 exact⟨v,(hb.block g hl).trans h1,aP h2 hb,h3⟩
end
theorem cells3 {w:World} {g:Nat} {a b c:Value} {T:TypeId} {mk:Nat×Nat} (h:w.heap[g]?=some (.cells #[a,b,c] T mk)):w.cell? ⟨g,0,none⟩=some a∧w.cell? ⟨g,1,none⟩=some b∧w.cell? ⟨g,2,none⟩=some c:=
 ⟨(cell_of_row w g 0 _ _ _ h).trans rfl,(cell_of_row w g 1 _ _ _ h).trans rfl,(cell_of_row w g 2 _ _ _ h).trans rfl⟩
end Go.Proofs.YtgamccijegollaaGreatDoor.uw
namespace Go.Proofs.YtgamccijegollaaGreatDoor.xH
open Go.RowKit Base Dp acj L6 uw
structure Bc (α:Type) where
 url:ByteArray
 s:ByteArray
 h:ByteArray
 p:Int
 n:Int
 x:α
section
variable {α:Type} (enc:α→Value)
def rw6 (e:Bc α):List Value:=[.string e.url,.string e.s,.string e.h,.int .i64 e.p,.int .i64 e.n,enc e.x]
def flat (l:List (Bc α)):List Value:=l.flatMap (rw6 enc)
end
def IsS (T E:TypeId) {α:Type} (enc:α→Value) (B g room:Nat) (l:List (Bc α)) (w:World):Prop:=∃v,w.heap[g]?=some (.cells #[.int .i64 (room:Int),v] T (0,0))∧w.ownsRow B E 6 v l.length (flat enc l)∧B≤g
section
variable {T E:TypeId} {α:Type} {enc:α→Value} {B g room:Nat} {l:List (Bc α)} {w w':World}
theorem IsS.lt (h:IsS T E enc B g room l w):g<w.heap.size:=by obtain⟨v,h,_⟩:=h;exact(Array.getElem?_eq_some_iff.1 h).1
theorem IsS.below (h:IsS T E enc B g room l w) (hb:Below w.heap.size w w'):IsS T E enc B g room l w':=by
 have hl:=h.lt
 obtain⟨v,h1,h2,h3⟩:=h
 exact⟨v,(hb.block g hl).trans h1,aP h2 hb,h3⟩
end
end Go.Proofs.YtgamccijegollaaGreatDoor.xH
namespace Go.Proofs.YtgamccijegollaaGreatDoor.dI
open Go.RowKit Base
def letter (c:Int):Bool:=decide (65≤c∧c≤90∨97≤c∧c≤122)
def digit (c:Int):Bool:=decide (48≤c∧c≤57)
def hex (c:Int):Int:=if 48≤c∧c≤57 then c - 48 else if 97≤c∧c≤102 then c - 87 else if 65≤c∧c≤70 then c - 55 else -1
theorem dN (c:Int) (w:World):Calls Tryz.prog 210 #[.int .u8 c] w fun e w'=>e=.returned (.bool (letter c))∧w=w':=by
 go_enter Tryz.func210,Tryz.ntmps210
 go_wp2
 all_goals
  go_ret
  exact⟨ak (by unfold letter;rw[Bool.eq_iff_iff];simp;omega),rfl⟩
theorem fE (c:Int) (w:World):Calls Tryz.prog 211 #[.int .u8 c] w fun e w'=>e=.returned (.bool (digit c))∧w=w':=by
 go_enter Tryz.func211,Tryz.ntmps211
 go_wp2
 all_goals
  go_ret
  exact⟨ak (by unfold digit;rw[Bool.eq_iff_iff];simp;omega),rfl⟩
theorem dV (c:Int) (w:World) (h0:0≤c) (h1:c≤255):Calls Tryz.prog 256 #[.int .u8 c] w fun e w'=>e=.returned (.int .i64 (hex c))∧w=w':=by
 go_enter Tryz.func256,Tryz.ntmps256
 go_wp2
 all_goals
  go_ret
  exact⟨iw (by unfold hex;(repeat' split)<;>omega),rfl⟩
end Go.Proofs.YtgamccijegollaaGreatDoor.dI
namespace Go.Proofs.YtgamccijegollaaGreatDoor.oO
open Go.RowKit Base dI
theorem vG (c:UInt8): -1≤hex c.toNat∧hex c.toNat≤15:=by
 have H:∀n:Fin 256,-1≤hex (n.val:Int)∧hex (n.val:Int)≤15:=by decide+kernel
 exact H ⟨c.toNat,c.toNat_lt⟩
def lH (b:Nat) (c:UInt8):Bool:=decide (0≤hex c.toNat)&&decide (hex c.toNat<b)
def eu (b:Nat) (L:List UInt8):Bool:=L.all (lH b)
def dv (c:UInt8):Nat:=(hex c.toNat).toNat
def val (b:Nat) (L:List UInt8):Nat:=L.foldl (fun n c=>n*b+dv c) 0
theorem jh (b:Nat) (L:List UInt8) (c:UInt8):val b (L++[c])=val b L*b+dv c:=by simp[val]
def Ht:List UInt8→Nat×List UInt8
 |[]=>(10,[])
 |[a]=>(10,[a])
 |a::x::r=>if a=48 then(if x=120∨x=88 then(16,r)else(8,x::r))else(10,a::x::r)
def num (L:List UInt8):Option Nat:=if L=[]then none else if eu (Ht L).1 (Ht L).2=true then some (val (Ht L).1 (Ht L).2)else none
def sat (n:Nat):Nat:=min n 4294967296
theorem Ea (v b d:Nat) (hb:1≤b):min (sat v*b+d) 4294967296=sat (v*b+d):=by
 unfold sat
 by_cases h:v≤4294967296
 ·rw[Nat.min_eq_left h]
 rw[Nat.min_eq_right (show 4294967296≤v by omega)]
 have h1:4294967296≤4294967296*b:=Nat.le_mul_of_pos_right _ hb
 have h2:4294967296*b≤v*b:=Nat.mul_le_mul_right _ (by omega)
 omega
theorem U8 (c:UInt8):dv c≤15:=by have:=vG c;unfold dv;omega
def bZ:List UInt8→List (List UInt8)
 |[]=>[[]]
 |c::L=>if c=46 then[]::bZ L else match bZ L with
  |[]=>[[c]]
  |x::r=>(c::x)::r
theorem qY:∀L:List UInt8,bZ L≠[]
 |[]=>by simp[bZ]
 |c::L=>by
  unfold bZ
  split
  ·simp
  ·split<;>simp
def oH (L:List UInt8):List UInt8:=Lib.trimSuffix L [46]
theorem rW (L:List UInt8):(bZ L).length≤L.length+1:=by
 induction L with
 |nil=>simp[bZ]
 |cons c L ih=>
  unfold bZ
  split
  ·simp;omega
  split
  ·simp
  rename_i h;rw[h]at ih;simp at ih⊢;omega
theorem qK:∀(L:List UInt8),∀x ∈ bZ L,x.length≤L.length
 |[],x,h=>by simp[bZ]at h;subst h;simp
 | c :: L, x, h => by
  unfold bZ at h
  split at h
  ·rcases List.mem_cons.1 h with rfl|h
   ·simp
   ·have:=qK L x h;simp;omega
  ·split at h
   ·simp at h;subst h;simp
   ·rename_i y r e
    rcases List.mem_cons.1 h with rfl|h
    ·have:=qK L y (by rw[e];simp);simp;omega
    ·have:=qK L x (by rw[e];simp[h]);simp;omega
theorem Fa (L:List UInt8):(oH L).length≤L.length:=by
 unfold oH Lib.trimSuffix
 split
 ·rw[List.length_take];omega
 exact Nat.le_refl _
def mZ:Nat→Nat→List (List UInt8)→Option Nat
 |_,acc,[]=>some acc
 |most,acc,[p]=>match num p with
  |some v=>if v<most then some (acc+v)else none
  |none=>none
 |most,acc,p::q::r=>match num p with
  |some v=>if v≤255 then mZ (most / 256) (acc+v*(most / 256)) (q::r)else none
  |none=>none
def NR (L:List UInt8):Option Nat:=if (bZ (oH L)).length≤4 then mZ 4294967296 0 (bZ (oH L))else none
def lst (L:List UInt8):List UInt8:=((bZ L).getLast?).getD []
def ends (L:List UInt8):Bool:=(num (lst (oH L))).isSome||(decide (lst (oH L)≠[])&&eu 10 (lst (oH L)))
theorem yH (c:UInt8):dI.digit c.toNat=lH 10 c:=by
 have H:∀n:Fin 256,dI.digit (n.val:Int)=(decide (0≤hex (n.val:Int))&&decide (hex (n.val:Int)<(10:Nat))):=by decide+kernel
 exact H ⟨c.toNat,c.toNat_lt⟩
theorem ahn (s : ByteArray) : s.data.toList.drop (Lib.lastIndexByte s 46 + 1).toNat = lst s.data.toList ∧ -1 ≤ Lib.lastIndexByte s 46 ∧ Lib.lastIndexByte s 46 < s.size := by
 have hb:∀j (h:j<s.data.toList.length),s.data[j]! =s.data.toList[j]:=fun j h=>by
  rw[getElem!_pos s.data j (by simpa using h)]
  simp
 have I8:∀M:List UInt8,(∀c ∈ M,c≠46)→bZ M=[M]:=by
  intro M
  induction M with
  |nil=>intro _;rfl
  |cons c M ih=>
   intro h
   rw[bZ,if_neg (h c (by simp)),ih fun d hd=>h d (by simp[hd])]
 have behind:∀(A M:List UInt8),(∀c ∈ M,c≠46)→lst (A++46::M)=M:=by
  intro A M hM
  induction A with
  |nil=>
   unfold lst
   rw[List.nil_append,bZ,if_pos rfl,I8 M hM]
   rfl
  | cons c A ih=>
   have hne:=qY (A++46::M)
   unfold lst at ih⊢
   rw[List.cons_append,bZ]
   split
   ·rw[List.getLast?_cons_of_ne_nil hne];exact ih
   cases h:bZ (A++46::M)with
   |nil=>exact absurd h hne
   | cons x r=>
    rw[h]at ih
    cases r with
    | nil=>
     exfalso
     have:2≤(bZ (A++46::M)).length:=by
      clear ih h hne
      induction A with
      |nil=>rw[List.nil_append,bZ,if_pos rfl,I8 M hM];simp
      |cons c A ih=> 
       rw[List.cons_append,bZ]
       split
       ·simp;omega
       split
       ·rename_i e;rw[e]at ih;simp at ih
       rename_i e;rw[e]at ih;simpa using ih
     rw[h]at this
     simp at this
    |cons y r'=>simpa using ih
 have hsz:s.data.toList.length=s.size:=Array.length_toList
 rcases Lib.lastIndexByte_spec s 46 with⟨h1,h2⟩|⟨i,hi,h1,h2,h3⟩
 ·rw[h1]
  refine⟨?_,by omega,by omega⟩
  show s.data.toList.drop 0=_
  rw[List.drop_zero]
  unfold lst
  rw[I8]
  ·rfl
  intro c hc
  obtain⟨j,hj,rfl⟩:=List.getElem_of_mem hc
  have:=h2 j (by omega)
  rw[hb j hj]at this
  intro e
  rw[e]at this
  exact this rfl
 rw[h1]
 refine⟨?_,by omega,by omega⟩
 have hil:i<s.data.toList.length:=by omega
 have e46:s.data.toList[i]=46:=by
  rw[hb i hil]at h2
  exact UInt8.toNat_inj.1 (by show _=46;omega)
 have e:s.data.toList=s.data.toList.take i++46::s.data.toList.drop (i+1):=by
  conv=>lhs;rw[←List.take_append_drop i s.data.toList,List.drop_eq_getElem_cons hil,e46]
 have hM:∀c ∈ s.data.toList.drop (i+1),c≠46:=by
  intro c hc
  obtain⟨j,hj,rfl⟩:=List.getElem_of_mem hc
  rw[List.length_drop]at hj
  rw[List.getElem_drop]
  have:=h3 (i+1+j) (by omega) (by omega)
  rw[hb _ (by omega)]at this
  intro e
  rw[e]at this
  exact this rfl
 have ht:((i:Int)+1).toNat=i+1:=by omega
 rw[ht]
 conv=>rhs;rw[e]
 rw[behind _ _ hM]
end Go.Proofs.YtgamccijegollaaGreatDoor.oO
