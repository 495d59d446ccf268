/- Texts that belong together: Base, Base2, Base3, Regs, Regt, Regp, uw, TbB, TbC, xH, dI. -/
import Derived.Test.YtmpeaoacaecgpaaGreatDoorChecked
import Derived.WalkKit
import Derived.WalkSpells
import Derived.WalkLawsBesides
import Derived.Outline
import Derived.Laws.IdiomStrings
import Derived.Deep.Draws
import Derived.Deep.AppendLies
import Derived.Deep.RegionHeld3
import Derived.Deep.DrawnRows
import Derived.Laws.OwnMore
import Derived.StillTail
import Derived.Laws.CopyRow
import Derived.BigQuiet
import Derived.Deep.QuietTactic
import Derived.Deep.WholeRow
set_option linter.unusedSimpArgs false
set_option linter.unusedVariables false
set_option maxRecDepth 100000
set_option maxHeartbeats 64000000
namespace Go.Proofs.YtmpeaoacaecgpaaGreatDoor.Base
open Go.RowKit
theorem ak {a b:Bool} (h:a=b):Ending.returned (.bool a)=.returned (.bool b):=by rw[h]
theorem iw {k:IntKind} {a b:Int} (h:a=b):Ending.returned (.int k a)=.returned (.int k b):=by rw[h]
theorem agj {a b:ByteArray} (h:a=b):Ending.returned (.string a)=.returned (.string b):=by rw[h]
theorem int_eq {k:IntKind} {a b:Int} (h:a=b):Value.int k a=.int k b:=by rw[h]
theorem iO {a b:Bool} (h:a=b):Value.bool a=.bool b:=by rw[h]
theorem vS {a b a' b':Value} (h1:a=a') (h2:b=b'):Ending.returned (.tuple #[a,b])=.returned (.tuple #[a',b']):=by rw[h1,h2]
theorem ret3 {a b c a' b' c':Value} (h1:a=a') (h2:b=b') (h3:c=c'):Ending.returned (.tuple #[a,b,c])=.returned (.tuple #[a',b',c']):=by rw[h1,h2,h3]
theorem Xd (g j:Nat):(⟨g,0,none⟩:Addr).add j=⟨g,j,none⟩:=by unfold Addr.add;split<;>simp_all
theorem below_drewN {B:Nat} {a w:World} (h:Below B a w) (n:Nat):Below B a (w.drewN n):=⟨h.os,h.tape,h.output,h.size,h.block⟩
theorem PE (c:UInt8):bits .and .u8 (c.toNat:Int) 15=(c.toNat:Int)%16:=by
 have H:∀n:Fin 256,bits .and .u8 (n.val:Int) 15=(n.val:Int)%16:=by decide+kernel
 exact H ⟨c.toNat,c.toNat_lt⟩
theorem hid {p:Prop} (h:p):Hid p:=h
def strOf (l:List UInt8):ByteArray:=⟨l.toArray⟩
theorem aG (s:ByteArray):strOf s.data.toList=s:=by cases s;rfl
theorem size_strOf (l:List UInt8):(strOf l).size=l.length:=by simp[strOf,ByteArray.size]
def oK (w:World) (g:Nat) (t:TypeId) (L:List UInt8):Prop:=
 ∃C m,w.heap[g]?=some (.cells C t (m,m+1))∧L.length≤m∧m≤C.size∧∀j (h:j<L.length),C[j]?=some (.int .u8 (L[j].toNat:Int))
theorem oK.cell {w:World} {g:Nat} {t:TypeId} {L:List UInt8} (h:oK w g t L) (j:Nat) (hj:j<L.length):w.cell? ⟨g,j,none⟩=some (.int .u8 (L[j].toNat:Int)):=by
 obtain⟨C,m,hh,hm,hC,hc⟩:=h
 unfold World.cell?
 rw[hh]
 simpa using hc j hj
theorem oK.frozen {w:World} {g:Nat} {t:TypeId} {L:List UInt8} (h:oK w g t L) (j:Nat) (hj:j<L.length):w.frozen? ⟨g,j,none⟩=false:=by
 obtain⟨C,m,hh,hm,hC,hc⟩:=h
 unfold World.frozen?
 rw[hh]
 simp
 omega
theorem oK.set {w:World} {g:Nat} {t:TypeId} {L:List UInt8} (h:oK w g t L) (j:Nat) (c:UInt8):oK (w.setCell ⟨g,j,none⟩ (.int .u8 (c.toNat:Int))) g t (L.set j c):=by
 obtain⟨C,m,hh,hm,hC,hc⟩:=h
 refine⟨C.setIfInBounds j (.int .u8 (c.toNat:Int)),m,?_,by simpa using hm,by simpa using hC,fun i hi=>?_⟩
 ·simp[World.setCell,Array.getElem?_modify,hh]
 have hi':i<L.length:=by simpa using hi
 by_cases e:j=i
 ·subst e
  rw[Array.getElem?_setIfInBounds_self_of_lt (by omega)]
  simp
 rw[Array.getElem?_setIfInBounds_ne e,hc i hi']
 simp[List.getElem_set,e]
theorem oK.made (w:World) (s:ByteArray) (t:TypeId) (n:Nat) (hn:s.size≤n):oK (w.alloc (.cells (bytesRow s n) t ((bytesRow s n).size,(bytesRow s n).size+1))) w.heap.size t s.data.toList:=by
 have hsz:s.data.size=s.size:=rfl
 refine⟨bytesRow s n,(bytesRow s n).size,heap_alloc_new w _,?_,Nat.le_refl _,fun j hj=>?_⟩
 ·simp[bytesRow]
 rw[bytesRow_at s n j (by simpa using hj)]
 simp
def aY (w:World) (A:Option Addr) (n:Nat) (xs:List Value):Prop:=
 xs.length=n∧∀j (h:j<xs.length),∃b off,A=some ⟨b,off,none⟩∧b<w.heap.size∧w.cell? ⟨b,off+j,none⟩=some xs[j]
def ah (L:List UInt8):List Value:=L.map fun c=>.int .u8 (c.toNat:Int)
def gV (k:IntKind) (l:List Int):List Value:=l.map (Value.int k)
theorem aI (L:List UInt8):(ah L).length=L.length:=by simp[ah]
theorem jA (k:IntKind) (l:List Int):(gV k l).length=l.length:=by simp[gV]
theorem aS (a b:List UInt8):ah (a++b)=ah a++ah b:=by simp[ah]
theorem jl (a:List UInt8) (k:Nat):ah (a.drop k)=(ah a).drop k:=by simp[ah]
theorem lC (a:List UInt8) (k:Nat):ah (a.take k)=(ah a).take k:=by simp[ah]
theorem iE (k:IntKind) (a b:List Int):gV k (a++b)=gV k a++gV k b:=by simp[gV]
theorem nR (L:List UInt8):∀u ∈ ah L,u.oneCell'=true:=by
 intro u hu
 simp only[ah,List.mem_map]at hu
 obtain⟨c,_,rfl⟩:=hu
 rfl
theorem iR:(Tryz.prog.info? 5).map (fun i=>(i.zero,i.size,i.bytes))=some (some (.int .u8 0),1,1):=by kernel_rfl
section
variable {w w':World} {A:Option Addr} {n:Nat} {xs:List Value}
theorem aY.nil (A:Option Addr):aY w A 0 []:=⟨rfl,fun j h=>absurd h (by simp)⟩
theorem aY.spot (h:aY w A n xs) (hn:0<n):∃b off,A=some ⟨b,off,none⟩∧b<w.heap.size∧∀j (h:j<xs.length),w.cell? ⟨b,off+j,none⟩=some xs[j]:=by
 obtain⟨b,off,rfl,hb,_⟩:=h.2 0 (by rw[h.1];exact hn)
 refine⟨b,off,rfl,hb,fun j hj=>?_⟩
 obtain⟨b',off',e,_,hc⟩:=h.2 j hj
 injection e with e
 injection e with e1 e2
 subst e1 e2
 exact hc
theorem aY.jF {b off:Nat} (hl:xs.length=n) (hb:b<w.heap.size) (h:∀j (h:j<xs.length),w.cell? ⟨b,off+j,none⟩=some xs[j]):aY w (some ⟨b,off,none⟩) n xs:=
 ⟨hl,fun j hj=>⟨b,off,rfl,hb,h j hj⟩⟩
theorem aY.below (h:aY w A n xs) (hb:Below w.heap.size w w'):aY w' A n xs:=
 ⟨h.1,fun j hj=>by
  obtain⟨b,off,rfl,hlt,hc⟩:=h.2 j hj
  exact⟨b,off,rfl,Nat.lt_of_lt_of_le hlt hb.size,(hb.cell (p:=⟨b,off+j,none⟩) hlt).trans hc⟩⟩
theorem aY.cut {b off:Nat} (h:aY w (some ⟨b,off,none⟩) n xs) (k:Nat) (hk:k≤n):aY w (some ⟨b,off+k,none⟩) (n - k) (xs.drop k):=
 ⟨by rw[List.length_drop,h.1],fun j hj=>by
  have hj':k+j<xs.length:=by rw[List.length_drop]at hj;omega
  obtain⟨b',off',e,hlt,hc⟩:=h.2 (k+j) hj'
  injection e with e
  injection e with e1 e2
  subst e1 e2
  refine⟨b,off+k,rfl,hlt,?_⟩
  rw[Nat.add_assoc,hc,List.getElem_drop]⟩
theorem aY.upto {b off:Nat} (h:aY w (some ⟨b,off,none⟩) n xs) (k:Nat) (hk:k≤n):aY w (some ⟨b,off,none⟩) k (xs.take k):=
 ⟨by rw[List.length_take,h.1];omega,fun j hj=>by
  have hj':j<xs.length:=by rw[List.length_take]at hj;omega
  obtain⟨b',off',e,hlt,hc⟩:=h.2 j hj'
  refine⟨b',off',e,hlt,?_⟩
  rw[hc,List.getElem_take]⟩
theorem aY.byte {L:List UInt8} {b off:Nat} (h:aY w (some ⟨b,off,none⟩) n (ah L)) (j:Nat) (hj:j<L.length):w.cell? ⟨b,off+j,none⟩=some (.int .u8 (L[j].toNat:Int)):=by
 obtain⟨b',off',e,_,hc⟩:=h.2 j (by rw[aI];exact hj)
 injection e with e
 injection e with e1 e2
 subst e1 e2
 rw[hc]
 simp[ah]
theorem aY.int {k:IntKind} {l:List Int} {b off:Nat} (h:aY w (some ⟨b,off,none⟩) n (gV k l)) (j:Nat) (hj:j<l.length):w.cell? ⟨b,off+j,none⟩=some (.int k l[j]):=by
 obtain⟨b',off',e,_,hc⟩:=h.2 j (by rw[jA];exact hj)
 injection e with e
 injection e with e1 e2
 subst e1 e2
 rw[hc]
 simp[gV]
theorem aJ {base:Nat} {e:TypeId} {v:Value} (h:w.ownsRow base e 1 v n xs):∃A c,v=.slice A n c∧n≤c∧c≤maxLen∧aY w A n xs:=by
 obtain⟨hl,h⟩:=h
 rw[Nat.mul_one]at hl
 rcases h with⟨rfl,rfl⟩|⟨g,cap,cur,rfl,hb,hh,hc,hm,hs,ht⟩
 ·exact⟨none,0,rfl,Nat.le_refl _,Nat.zero_le _,hl,fun j hj=>absurd hj (by omega)⟩
 refine⟨some ⟨g,0,none⟩,cap,rfl,hc,hm,aY.jF hl (Array.getElem?_eq_some_iff.1 hh).1 fun j hj=>?_⟩
 rw[Nat.zero_add,cell_of_row w g j cur e (0,0) hh]
 simp only[Nat.mul_one]at ht
 have:(cur.toList.take n)[j]?=some xs[j]:=by rw[ht];exact List.getElem?_eq_getElem hj
 rw[List.getElem?_take,if_pos (by omega)]at this
 simpa using this
theorem aP {base:Nat} {e:TypeId} {size:Nat} {v:Value} (h:w.ownsRow base e size v n xs) (hb:Below w.heap.size w w'):w'.ownsRow base e size v n xs:=by
 refine⟨h.1,?_⟩
 rcases h.2 with hn|⟨g,cap,cur,rfl,hg,hh,rest⟩
 ·exact .inl hn
 exact .inr ⟨g,cap,cur,rfl,hg,(hb.block g (Array.getElem?_eq_some_iff.1 hh).1).trans hh,rest⟩
theorem ay {base base':Nat} {e:TypeId} {size:Nat} {v:Value} (h:w.ownsRow base e size v n xs) (hb:base'≤base):w.ownsRow base' e size v n xs:=by
 refine⟨h.1,?_⟩
 rcases h.2 with hn|⟨g,cap,cur,rfl,hg,rest⟩
 ·exact .inl hn
 exact .inr ⟨g,cap,cur,rfl,Nat.le_trans hb hg,rest⟩
theorem aF {P:Program} (src dst e:TypeId) (hs:P.underlying src=some (.slice e)) (he:P.underlying e=some (.int .u8)) (hd:P.underlying dst=some .string) (L:List UInt8) (c:Nat) (h:aY w A n (ah L)):
  (convert src dst (.slice A n c)).run P w=.ok (.string (strOf L)) w:=by
 have hl:L.length=n:=by rw[←aI];exact h.1
 cases A with
 | none=>
  have h0:n=0:=by
   rcases Nat.eq_zero_or_pos n with h0|h0
   ·exact h0
   ·obtain⟨_,_,e,_⟩:=h.spot h0
    cases e
  subst h0
  obtain rfl:L=[]:=List.eq_nil_of_length_eq_zero hl
  rw[run_convert_bytes_string w src dst e none 0 c hs he hd]
  rfl
 | some a=>
  subst hl
  exact run_convert_bytes_back w src dst e a c L hs he hd (fun j hj=>by
   obtain⟨b,off,e,_,hc⟩:=h.2 j (by rw[aI];exact hj)
   injection e with e
   subst e
   have ha:(⟨b,off,none⟩:Addr).add j=⟨b,off+j,none⟩:=by
    unfold Addr.add
    split<;>simp_all
   rw[ha,hc]
   simp[ah])
end
section
variable {P:Program} {W w0:World} {ops:Array Oper} {rest:List Oper} {o:Oper} {a:Act} {Q:Exit→Act→World→Prop}
theorem aQ (hgd:o.guard=none) (s x:Operand) (t:TypeId) (ho:o.op=.call {callee:=.builtin .append,args:=#[s,x],argTypes:=#[t,t]})
  (B:Nat) (e:TypeId) (i:TypeInfo) (z:Value) (by_:Nat) (ht:P.underlying t=some (.slice e)) (hi:P.info? e=some i) (hz:i.zero=some z) (hsize:i.size=1) (hby:i.bytes=by_) (hzs:z.cells.size=1)
  (v:Value) (n:Nat) (xs:List Value) (hs:a.eval s=v) (hown:W.ownsRow B e 1 v n xs) (hbel:Below B w0 W) (hB:B≤W.heap.size)
  (news:List Value) (m:Nat) (hm:news.length=m) (hx:a.eval x=.slice (some ⟨W.heap.size,0,none⟩) m m) (h1:∀u ∈ news,u.oneCell'=true)
  (h63:n+m≤maxLen) (hbytes:(n+m)*by_≤140737488355328)
  (h:∀v' w',w'.ownsRow B e 1 v' (n+m) (xs++news)→Below B w0 w'→wpList P ops Q rest (a.put o.dst v') w'):
  wpList P ops Q (o::rest) a (W.alloc (.cells news.toArray e)):=by
 refine wpList_append_own _ hgd s x t ho B e i z 1 by_ ht hi hz hsize hby hzs (by decide) v n xs hs (hown.alloc _) ⟨W.heap.size,0,none⟩ m m news hx (by omega) (fun j u hj=>?_) h1 h63 hbytes (by simp;omega) (fun v' w' h2 h3 _=>h v' w' h2 ?_)
 ·rw[Xd,World.cell?_alloc_mark]
  simpa using hj
 ·exact(hbel.alloc hB _).grown h3 (by simp;omega) (fun g hg=>(hown.lt g hg).1)
theorem RS {K:Act→World→Prop} {E:Prop} (hgd:o.guard=none) (s x:Operand) (t:TypeId) (ho:o.op=.call {callee:=.builtin .append,args:=#[s,x],argTypes:=#[t,t]})
  (B:Nat) (e:TypeId) (i:TypeInfo) (z:Value) (by_:Nat) (ht:P.underlying t=some (.slice e)) (hi:P.info? e=some i) (hz:i.zero=some z) (hsize:i.size=1) (hby:i.bytes=by_) (hzs:z.cells.size=1)
  (v:Value) (n:Nat) (xs:List Value) (hs:a.eval s=v) (hown:W.ownsRow B e 1 v n xs) (hbel:Below B w0 W) (hB:B≤W.heap.size)
  (news:List Value) (m:Nat) (hm:news.length=m) (hm0:0<m) (hx:a.eval x=.slice (some ⟨W.heap.size,0,none⟩) m m) (h1:∀u ∈ news,u.oneCell'=true)
  (h63:n+m≤maxLen) (hbytes:(n+m)*by_≤140737488355328) {wq:World} (hwq:Below B (W.alloc (.cells news.toArray e)) wq∧(∀b:Nat,wq.heap[b]?=(W.alloc (.cells news.toArray e)).heap[b]?)∧wq.heap.size=W.heap.size+1)
  (h:∀v' w',w'.ownsRow B e 1 v' (n+m) (xs++news)→Below B w0 w'→K (a.put o.dst v') w'):
  if Region.wanted o (yielded ops a.tmps)=true then Oper.wp P o a wq K Q else E:=by
 have hgr:Below (W.alloc (.cells news.toArray e)).heap.size (W.alloc (.cells news.toArray e)) wq:=⟨hwq.1.os,hwq.1.tape,hwq.1.output,hwq.1.size,fun k _=>hwq.2.1 k⟩
 have hown':wq.ownsRow B e 1 v n xs:=aP (hown.alloc _) hgr
 refine step_append_lies (w:=wq) hgd s x t ho B e i z 1 by_ ht hi hz hsize hby hzs (by decide) v n xs hs hown' ⟨W.heap.size,0,none⟩ m m news hx (by omega) (fun j u hj=>?_) h1 hm0 h63 hbytes (by omega) _ rfl (fun g cap w' h2 h3 _ _=>h _ w' h2 ?_)
 ·rw[Xd,World.cell?_of_block (w:=W.alloc (.cells news.toArray e)) (hwq.2.1 _),World.cell?_alloc_mark]
  simpa using hj
 ·exact((hbel.alloc hB _).trans hwq.1).grown h3 (by omega) (fun g hg=>(hown.lt g hg).1)
end
end Go.Proofs.YtmpeaoacaecgpaaGreatDoor.Base
namespace Go.Proofs.YtmpeaoacaecgpaaGreatDoor.Base2
open Go.RowKit Base
theorem qF (w:World) (L:List UInt8) (t:TypeId) (mk:Nat×Nat):aY (w.alloc (.cells (ah L).toArray t mk)) (some ⟨w.heap.size,0,none⟩) L.length (ah L):=
 aY.jF (aI L) (by simp) (fun j hj=>by
  rw[Nat.zero_add,World.cell?_alloc_mark]
  simp)
theorem fV (s:ByteArray) (cap:Nat) (w:World) (t:TypeId):aY (w.drew.alloc (.cells (bytesRow s cap) t ((bytesRow s cap).size,(bytesRow s cap).size+1))) (some ⟨w.heap.size,0,none⟩) s.size (ah s.data.toList):=
 aY.jF (by rw[aI];exact Array.length_toList) (by simp) (fun j hj=>by
  have hj':j<s.data.size:=by rw[aI,Array.length_toList]at hj;exact hj
  rw[Nat.zero_add]
  have e:w.heap.size=w.drew.heap.size:=rfl
  rw[e,World.cell?_alloc_mark,bytesRow_at s cap j hj']
  simp[ah])
theorem str_add {P:Program} (X Y:List UInt8) (w:World) (h:X.length+Y.length≤9223372036854775807):(Op.stringOp .add (strOf X) (strOf Y)).run P w=.ok (.string (strOf (X++Y))) w:=by
 rw[run_string_add_sum w _ _ (by rw[size_strOf,size_strOf];exact h)]
 congr 2
theorem dL {P:Program} (a b:ByteArray) (w:World) (h:a.size+b.size≤9223372036854775807):(Op.stringOp .add a b).run P w=.ok (.string (strOf (a.data.toList++b.data.toList))) w:=by
 rw[run_string_add_sum w _ _ h]
 congr 3
theorem bel {w0 w w':World} (h:Below w0.heap.size w0 w) (hb:Below w.heap.size w w'):Below w0.heap.size w0 w':=h.trans (hb.mono h.size)
theorem uT {w:World} {A:Option Addr} {n:Nat} {xs:List Value} (h:aY w A n xs):aY w.drew A n xs:=h
theorem Eu {w:World} {A:Option Addr} {n:Nat} {xs:List Value} (h:aY w A n xs) (k:Nat):aY (w.drewN k) A n xs:=h
theorem CY {w0 w w':World} (h:Below w0.heap.size w0 w) (hb:Below w.drew.heap.size w.drew w'):Below w0.heap.size w0 w':=h.drew.trans (hb.mono h.size)
end Go.Proofs.YtmpeaoacaecgpaaGreatDoor.Base2
namespace Go.Proofs.YtmpeaoacaecgpaaGreatDoor.Base3
open Go.RowKit Base Base2
section
variable {P:Program} {W w0:World} {ops:Array Oper} {rest:List Oper} {o:Oper} {a:Act} {Q:Exit→Act→World→Prop}
theorem abv (base:Nat) (t ty e:TypeId) (i:TypeInfo) (size c:Nat) (ht:P.underlying t=some (.slice e)) (hi:P.info? e=some i) (v:Value) (n:Nat) (xs:List Value) (hown:W.ownsRow base e size v n xs):
  (Builtin.append_ #[t,t] ty #[v,.slice none 0 c]).run P W=.ok v W:=by
 rcases hown.2 with⟨rfl,rfl⟩|⟨g,cap,cur,rfl,_,_,hnc,_⟩
 ·simp[Builtin.append_,run_underlying ht,sizeOf,typeInfo,hi,Builtin.lenOf,Builtin.firstCells]
 ·simp[Builtin.append_,run_underlying ht,sizeOf,typeInfo,hi,Builtin.lenOf,Builtin.firstCells,hnc,storeCells]
theorem dH (hgd:o.guard=none) (s x:Operand) (t:TypeId) (ho:o.op=.call {callee:=.builtin .append,args:=#[s,x],argTypes:=#[t,t]})
  (B:Nat) (e:TypeId) (i:TypeInfo) (z:Value) (by_:Nat) (ht:P.underlying t=some (.slice e)) (hi:P.info? e=some i) (hz:i.zero=some z) (hsize:i.size=1) (hby:i.bytes=by_) (hzs:z.cells.size=1)
  (v:Value) (n:Nat) (xs:List Value) (hs:a.eval s=v) (hown:W.ownsRow B e 1 v n xs) (hbel:Below B w0 W) (hB:B≤W.heap.size)
  (A:Option Addr) (m c:Nat) (news:List Value) (hx:a.eval x=.slice A m c) (hr:aY W A m news) (h1:∀u ∈ news,u.oneCell'=true)
  (h63:n+m≤maxLen) (hbytes:(n+m)*by_≤140737488355328)
  (h:∀v' w',w'.ownsRow B e 1 v' (n+m) (xs++news)→Below B w0 w'→wpList P ops Q rest (a.put o.dst v') w'):
  wpList P ops Q (o::rest) a W:=by
 cases A with
 | none=>
  have hm:m=0:=by
   rcases Nat.eq_zero_or_pos m with h0|h0
   ·exact h0
   ·obtain⟨_,_,e,_⟩:=hr.spot h0
    cases e
  subst hm
  have hn:news=[]:=List.eq_nil_of_length_eq_zero hr.1
  subst hn
  have hh:=h v W (by simpa using hown) hbel
  refine wpList_plain hgd fun K hK=>?_
  have hrun:=abv (P:=P) (W:=W) B t o.type e i 1 c ht hi v n xs hown
  unfold Oper.wp
  simp[execOp,ho,resolve,invoke,builtin,hs,hx,hrun,Result.andThen]
  exact hK _ _ hh
 |some ad=>
  refine wpList_append_own _ hgd s x t ho B e i z 1 by_ ht hi hz hsize hby hzs (by decide) v n xs hs hown ad m c news hx (by rw[hr.1,Nat.mul_one]) (fun j u hj=>?_) h1 h63 hbytes hB (fun v' w' h2 h3 _=>h v' w' h2 (hbel.grown h3 hB (fun g hg=>(hown.lt g hg).1)))
  obtain⟨hj',e⟩:=List.getElem?_eq_some_iff.1 hj
  obtain⟨b,off,e1,_,hc⟩:=hr.2 j hj'
  injection e1 with e1
  subst e1
  have ha:(⟨b,off,none⟩:Addr).add j=⟨b,off+j,none⟩:=by
   unfold Addr.add
   split<;>simp_all
  rw[ha,hc,e]
end
end Go.Proofs.YtmpeaoacaecgpaaGreatDoor.Base3
namespace Go.Proofs.YtmpeaoacaecgpaaGreatDoor.Regs
open Go.RowKit Base
structure Keep where
 says:Value→World→Prop
 stays:∀v w w',Below w.heap.size w w'→says v w→says v w'
def is (v:Value):Keep:=⟨fun u _=>u=v,fun _ _ _ _ h=>h⟩
def any:Keep:=⟨fun _ _=>True,fun _ _ _ _ h=>h⟩
def row (n:Nat) (xs:List Value):Keep:=⟨fun u w=>∃A c,u=.slice A n c∧n≤c∧c≤maxLen∧aY w A n xs,fun _ _ _ hb ⟨A,c,h1,h2,h3,h4⟩=>⟨A,c,h1,h2,h3,h4.below hb⟩⟩
def pick:List Keep→Nat→Keep
 |[],_=>any
 |r::_,0=>r
 |_::rs,n+1=>pick rs n
def upd (t:Nat→Value) (i:Nat) (v:Value) (k:Nat):Value:=if k=i then v else t k
def filled (t:Nat→Value):List Oper→Nat→Act→Act
 |[],_,a=>a
 |o::os,k,a=>filled t os (k+1) (a.put o.dst (t k))
def Have (R:List Keep) (t:Nat→Value) (w:World):List Nat→Prop
 |[]=>True
 |k::ks=>(pick R k).says (t k) w∧Have R t w ks
section
variable {P:Program} {md:Region.Mode} {ops:Array Oper} {Q:Exit→Act→World→Prop}
def Step (P:Program) (ops:Array Oper) (Q:Exit→Act→World→Prop) (A:(Nat→Value)→Act) (w0:World) (R:List Keep) (i:Nat) (o:Oper) (ns:List Nat):Prop:=
 ∀t w,Below w0.heap.size w0 w→Have R t w ns→∀K:Act→World→Prop,(∀v w',Below w.heap.size w w'→(pick R i).says v w'→K (A (upd t i v)) w')→
  if Region.wanted o (yielded ops (A t).tmps)=true then Oper.wp P o (A t) w K Q else K ((A t).put o.dst undef) w
def Steps (P:Program) (ops:Array Oper) (Q:Exit→Act→World→Prop) (A:(Nat→Value)→Act) (w0:World) (R:List Keep):Nat→List Oper→List (List Nat)→Prop
 |_,[],_=>True
 |k,o::os,ns=>Step P ops Q A w0 R k o (ns.headD [])∧Steps P ops Q A w0 R (k+1) os ns.tail
theorem Steps.at {A:(Nat→Value)→Act} {w0:World} {R:List Keep}:∀(os:List Oper) (k:Nat) (ns:List (List Nat)),Steps P ops Q A w0 R k os ns→∀j o,os[j]?=some o→Step P ops Q A w0 R (k+j) o (ns.getD j [])
 |[],_,_,_,j,o,h=>by simp at h
 |p::os,k,ns,h,0,o,e=>by
  simp at e
  subst e
  cases ns<;>exact h.1
 |p::os,k,ns,h,j+1,o,e=>by
  have:=Steps.at os (k+1) ns.tail h.2 j o (by simpa using e)
  rw[Nat.add_assoc,Nat.add_comm 1 j]at this
  cases ns<;>simpa using this
def DF (md:Region.Mode) (ops:Array Oper) (ns:List (List Nat)):Bool:=
 (List.range ops.size).all fun i=>match ops[i]? with
  |none=>false
  |some o=>(o.after.all fun e=> !Region.binds md e||decide (e.on<i))&&(ns.getD i []).all fun k=>o.after.any fun e=>Region.binds md e&&(e.on==k||(ns.getD e.on []).contains k)
theorem vK {ns:List (List Nat)} (h:DF md ops ns=true) {i:Nat} {o:Oper} (ho:ops[i]?=some o):(∀e ∈ o.after,Region.binds md e=true→e.on<i)∧∀k ∈ ns.getD i [],∃e ∈ o.after,Region.binds md e=true∧(e.on=k∨k ∈ ns.getD e.on []):=by
 have h1:=List.all_eq_true.1 h i (by simp only[List.mem_range];exact(Array.getElem?_eq_some_iff.1 ho).1)
 simp only[ho,Bool.and_eq_true]at h1
 obtain⟨h1,h2⟩:=h1
 constructor
 ·intro e he hb
  have:=Array.all_eq_true_iff_forall_mem.1 h1 e he
  simpa[hb]using this
 intro k hk
 have:=List.all_eq_true.1 h2 k hk
 obtain⟨e,he,h3⟩:=Array.any_eq_true'.1 this
 simp only[Bool.and_eq_true,Bool.or_eq_true,beq_iff_eq,List.contains_iff_mem]at h3
 exact⟨e,he,h3.1,h3.2⟩
def YV (ops:Array Oper) (listed:Array Bool):Nat:=(List.range ops.size).countP fun i=> !listed.getD i true
theorem wP {l:Array Bool} {i:Nat} (h:i<l.size) (d d':Bool):l.getD i d=l.getD i d':=by simp[Array.getD,h]
structure Inv (ops:Array Oper) (w0:World) (R:List Keep) (ns:List (List Nat)) (listed:Array Bool) (t:Nat→Value) (w:World):Prop where
 below:Below w0.heap.size w0 w
 size:listed.size=ops.size
 held:∀i,listed.getD i false=true→(pick R i).says (t i) w∧∀k ∈ ns.getD i [],listed.getD k false=true
theorem o8 {R:List Keep} {t:Nat→Value} {w:World}:∀ks:List Nat,(∀k ∈ ks,(pick R k).says (t k) w)→Have R t w ks
 |[],_=>trivial
 |k::ks,h=>⟨h k (by simp),o8 ks fun j hj=>h j (by simp[hj])⟩
theorem aB {R:List Keep} {t:Nat→Value} {w:World} {n:Nat} (h:Have R t w (List.range n)) (k:Nat) (hk:k<n):(pick R k).says (t k) w:=by
 have H:∀ks:List Nat,Have R t w ks→∀k ∈ ks,(pick R k).says (t k) w:=by
  intro ks
  induction ks with
  |nil=>intro _ k hk;cases hk
  |cons x xs ih=>
   intro h k hk
   rcases List.mem_cons.1 hk with rfl|hk
   ·exact h.1
   exact ih h.2 k hk
 exact H _ h k (by simpa using hk)
theorem uU {ns:List (List Nat)} (hB:DF md ops ns=true) {listed:Array Bool} (hs:listed.size=ops.size) (hr:Region.ready md ops listed=[]):∀n i,i<n→i<ops.size→listed.getD i false=true:=by
 intro n
 induction n with
 |zero=>intro i h;omega
 |succ n ih=>
  intro i hi hlt
  by_cases hn:listed.getD i false=true
  ·exact hn
  exfalso
  have ho:ops[i]?=some ops[i]:=Array.getElem?_eq_getElem hlt
  have:i ∈ Region.ready md ops listed:=mem_ready.2 ⟨by rw[wP (by omega) true false];simpa using hn,_,ho,fun e he hb=>by
   have:=(vK hB ho).1 e he hb
   exact ih e.on (by omega) (by omega)⟩
  rw[hr]at this
  cases this
theorem countP_set {listed:Array Bool} {i:Nat} (hs:listed.size=ops.size) (hi:i<ops.size) (hu:listed.getD i true=false):YV ops (listed.setIfInBounds i true)<YV ops listed:=by
 unfold YV
 have key:∀l:List Nat,l.countP (fun j=> !(listed.setIfInBounds i true).getD j true)≤l.countP (fun j=> !listed.getD j true)∧(i ∈ l→l.countP (fun j=> !(listed.setIfInBounds i true).getD j true)<l.countP (fun j=> !listed.getD j true)):=by
  intro l
  induction l with
  |nil=>simp
  |cons x l ih=>
   have hx:x=i∨x≠i:=Decidable.em _
   rcases hx with rfl|hx
   ·have h1:(listed.setIfInBounds x true).getD x true=true:=by simp[Array.getD]
    rw[List.countP_cons,List.countP_cons,h1,hu]
    simp only[Bool.not_true,Bool.not_false,Bool.false_eq_true,if_true,if_false]
    have:=ih.1
    exact⟨by omega,fun _=>by omega⟩
   have h1:(listed.setIfInBounds i true).getD x true=listed.getD x true:=getD_set_ne true (Ne.symm hx)
   rw[List.countP_cons,List.countP_cons,h1]
   refine⟨by omega,fun h=>?_⟩
   rcases List.mem_cons.1 h with h|h
   ·exact absurd h.symm hx
   have:=ih.2 h
   omega
 exact(key _).2 (by simpa using hi)
theorem aiZ {A:(Nat→Value)→Act} {w0:World} {R:List Keep} {ns:List (List Nat)} (hB:DF md ops ns=true) (steps:Steps P ops Q A w0 R 0 ops.toList ns)
  (fin:∀t w,Below w0.heap.size w0 w→Have R t w (List.range ops.size)→Q .normal (A t) w):
  ∀(fuel:Nat) (listed:Array Bool) (t:Nat→Value) (w:World),Inv ops w0 R ns listed t w→YV ops listed≤fuel→wpAny P md ops Q fuel listed (A t) w:=by
 have done:∀(listed:Array Bool) (t:Nat→Value) (w:World),Inv ops w0 R ns listed t w→Region.ready md ops listed=[]→Q .normal (A t) w:=fun listed t w h hr=>
  fin t w h.below (o8 _ fun k hk=>(h.held k (uU hB h.size hr (k+1) k (by omega) (by simpa using hk))).1)
 intro fuel
 induction fuel with
 | zero=>
  intro listed t w h hu
  have hr:Region.ready md ops listed=[]:=by
   cases e:Region.ready md ops listed with
   |nil=>rfl
   |cons i l=>
    have hi:i ∈ Region.ready md ops listed:=by rw[e];simp
    obtain⟨h0,o,ho,_⟩:=mem_ready.1 hi
    have:=countP_set h.size (Array.getElem?_eq_some_iff.1 ho).1 h0
    omega
  exact⟨hr,done listed t w h hr⟩
 | succ fuel ih=>
  intro listed t w h hu
  refine⟨done listed t w h,fun i hi=>?_⟩
  obtain⟨h0,o,ho,hall⟩:=mem_ready.1 hi
  have hlt:=(Array.getElem?_eq_some_iff.1 ho).1
  have wQ:∀k ∈ ns.getD i [],listed.getD k false=true:=fun k hk=>by
   obtain⟨e,he,hb,hk⟩:=(vK hB ho).2 k hk
   rcases hk with rfl|hk
   ·exact hall e he hb
   ·exact(h.held e.on (hall e he hb)).2 k hk
  have hst:=Steps.at ops.toList 0 ns steps i o (by simpa using ho)
  rw[Nat.zero_add]at hst
  refine wpOp_step ho fun K hK=>hst t w h.below (o8 _ fun k hk=>(h.held k (wQ k hk)).1) K fun v w' hb hv=>hK _ _ (ih _ _ _ ⟨h.below.trans (hb.mono h.below.size),by simpa using h.size,fun j hj=>?_⟩ ?_)
  ·by_cases hji:j=i
   ·subst hji
    refine⟨by simpa[upd]using hv,fun k hk=>getD_set_true (wQ k hk)⟩
   ·rw[getD_set_ne false (Ne.symm hji)]at hj
    have:=h.held j hj
    refine⟨by simp only[upd,if_neg hji];exact(pick R j).stays _ _ _ hb this.1,fun k hk=>getD_set_true (this.2 k hk)⟩
  ·have:=countP_set h.size hlt h0
   omega
def now (ops:List Oper) (a:Act) (k:Nat):Value:=match (ops[k]?).bind (·.dst)with|some d=>a.tmps.getD d undef|none=>undef
theorem put_now (a:Act) (d:Option Tmp) (v:Value) (h:∀x,d=some x→v=a.tmps.getD x undef):a.put d v=a:=by
 cases d with
 |none=>rfl
 |some x=>
  have:=h x rfl
  subst this
  unfold Act.put
  simp only
  congr 1
  apply Array.ext_getElem?
  intro i
  by_cases hi:x=i
  ·subst hi
   by_cases hx:x<a.tmps.size
   ·simp[hx]
   simp[hx]
  rw[Array.getElem?_setIfInBounds_ne hi]
theorem uY (a:Act) (all:List Oper):∀(os:List Oper) (k:Nat),(∀j,os[j]?=all[k+j]?)→filled (now all a) os k a=a
 |[],_,_=>rfl
 |o::os,k,h=>by
  have h0:all[k]?=some o:=by simpa using(h 0).symm
  have e:a.put o.dst (now all a k)=a:=put_now a _ _ fun x hx=>by unfold now;rw[h0];simp[hx]
  show filled (now all a) os (k+1) (a.put o.dst (now all a k))=a
  rw[e]
  exact uY a all os (k+1) fun j=>by have:=h (j+1);simpa[Nat.add_assoc,Nat.add_comm 1 j]using this
theorem aV {id:Nat} {a:Act} {w:World} {l:List Oper} (hm:P.follows .mixedOrders=true) (R:List Keep) (ns:List (List Nat)) (hB:DF .any l.toArray ns=true)
  (steps:Steps P l.toArray Q (fun t=>filled t l 0 a) w R 0 l ns)
  (fin:∀t w',Below w.heap.size w w'→Have R t w' (List.range l.length)→Q .normal (filled t l 0 a) w'):(Code.region id l.toArray true).wp P Q a w:=by
 refine wp_region_any hm ?_
 have h:=aiZ (P:=P) (Q:=Q) (md:=.any) (ops:=l.toArray) (A:=fun t=>filled t l 0 a) (w0:=w) (R:=R) (ns:=ns) hB (by simpa using steps) (by simpa using fin) l.length (Array.replicate l.length false) (now l a) {w with drawn:=w.drawn+1}
  ⟨⟨rfl,rfl,rfl,Nat.le_refl _,fun _ _=>rfl⟩,by simp,fun i hi=>by
   by_cases h:i<l.length<;>simp[Array.getD,h]at hi⟩ (by unfold YV;refine Nat.le_trans List.countP_le_length ?_;simp)
 have e:=uY a l l 0 (fun j=>by simp)
 have h':wpAny P .any l.toArray Q l.length (Array.replicate l.length false) (filled (now l a) l 0 a) {w with drawn:=w.drawn+1}:=h
 rw[e]at h'
 simpa using h'
end
end Go.Proofs.YtmpeaoacaecgpaaGreatDoor.Regs
namespace Go.Proofs.YtmpeaoacaecgpaaGreatDoor.Regs
open Go.RowKit Base
theorem ext_take (s:ByteArray) (k:Nat):s.extract 0 k=strOf (s.data.toList.take k):=by
 apply ByteArray.ext
 apply Array.ext'
 rw[ByteArray.data_extract]
 simp[strOf,Array.toList_extract,List.extract_eq_take_drop]
theorem ext_drop (s:ByteArray) (k n:Nat) (h:n=s.size):s.extract k n=strOf (s.data.toList.drop k):=by
 subst h
 apply ByteArray.ext
 apply Array.ext'
 rw[ByteArray.data_extract]
 simp only[strOf,Array.toList_extract,List.extract_eq_take_drop]
 rw[List.take_of_length_le]
 rw[List.length_drop,Array.length_toList]
 exact Nat.le_refl _
theorem iC {e:Int} (h0: -9223372036854775808≤e) (h1:e≤9223372036854775807):Value.int .i64 (IntKind.i64.wrap e)=.int .i64 e:=by
 rw[IntKind.wrap_i64]
 congr 1
 omega
section
variable {P:Program} {md:Region.Mode} {ops:Array Oper} {Q:Exit→Act→World→Prop}
theorem qR {listed:Array Bool} {i:Nat} (hs:listed.size=ops.size) (hi:i<ops.size) (hu:listed.getD i true=false):YV ops (listed.setIfInBounds i true)+1=YV ops listed:=by
 unfold YV
 have key:∀l:List Nat,l.Nodup→(i ∉ l→l.countP (fun j=> !(listed.setIfInBounds i true).getD j true)=l.countP (fun j=> !listed.getD j true))∧(i ∈ l→l.countP (fun j=> !(listed.setIfInBounds i true).getD j true)+1=l.countP (fun j=> !listed.getD j true)):=by
  intro l
  induction l with
  |nil=>simp
  |cons x l ih=>
   intro hnd
   rw[List.nodup_cons]at hnd
   have hx:x=i∨x≠i:=Decidable.em _
   rcases hx with rfl|hx
   ·have h1:(listed.setIfInBounds x true).getD x true=true:=by simp[Array.getD]
    rw[List.countP_cons,List.countP_cons,h1,hu]
    simp only[Bool.not_true,Bool.not_false,Bool.false_eq_true,if_true,if_false]
    have:=(ih hnd.2).1 hnd.1
    exact⟨fun h=>absurd (List.mem_cons_self) h,fun _=>by omega⟩
   have h1:(listed.setIfInBounds i true).getD x true=listed.getD x true:=getD_set_ne true (Ne.symm hx)
   rw[List.countP_cons,List.countP_cons,h1]
   refine⟨fun h=>?_,fun h=>?_⟩
   ·have:=(ih hnd.2).1 (fun hm=>h (List.mem_cons_of_mem _ hm))
    omega
   rcases List.mem_cons.1 h with h|h
   ·exact absurd h.symm hx
   have:=(ih hnd.2).2 h
   omega
 exact(key _ List.nodup_range).2 (by simpa using hi)
def aj (t:Nat→Value):Nat→List Oper→Nat→Act→Act
 |0,_,_,a=>a
 |_+1,[],_,a=>a
 |n+1,o::os,k,a=>aj t n os (k+1) (a.put o.dst (t k))
theorem Aa (t:Nat→Value):∀(n:Nat) (os:List Oper) (k:Nat) (a:Act),aj t n os k a=filled t (os.take n) k a
 |0,_,_,_=>rfl
 |_+1,[],_,_=>rfl
 |n+1,o::os,k,a=>by
  show aj t n os (k+1) (a.put o.dst (t k))=_
  rw[Aa t n os]
  rfl
def anL (md:Region.Mode) (ops:Array Oper) (ns:List (List Nat)) (n:Nat):Bool:=
 decide (n<ops.size)&&DF md ops ns&&((List.range n).all fun k=>(ns.getD n []).contains k)&&
 ((List.range ops.size).all fun i=>decide (i≤n)||match ops[i]? with
  |none=>false
  |some o=>o.after.any fun e=>Region.binds md e&&decide (n≤e.on))&&
 Region.seqB md ops (ops.size - n) n (List.replicate n true++List.replicate (ops.size - n) false).toArray
structure InvT (ops:Array Oper) (w0:World) (R:List Keep) (ns:List (List Nat)) (n:Nat) (listed:Array Bool) (t:Nat→Value) (w:World):Prop extends Inv ops w0 R ns listed t w where
 tail:∀i,n≤i→listed.getD i false=false
theorem S9 {A:(Nat→Value)→Act} {w0:World} {R:List Keep} {ns:List (List Nat)} {n:Nat} (hB:anL md ops ns n=true) (steps:Steps P ops Q A w0 R 0 (ops.toList.take n) ns)
  (fin:∀t w,Below w0.heap.size w0 w→Have R t w (List.range n)→wpList P ops Q (ops.toList.drop n) (A t) w):
  ∀(fuel:Nat) (listed:Array Bool) (t:Nat→Value) (w:World),InvT ops w0 R ns n listed t w→YV ops listed=fuel→wpAny P md ops Q fuel listed (A t) w:=by
 unfold anL at hB
 simp only[Bool.and_eq_true,decide_eq_true_eq]at hB
 obtain⟨⟨⟨⟨hn,hN⟩,hall⟩,hch⟩,hseq⟩:=hB
 -- all of the head is listed:the tail,in its order
 have done : ∀ (fuel : Nat) (listed : Array Bool) (t : Nat → Value) (w : World), InvT ops w0 R ns n listed t w → YV ops listed = fuel → (∀ i, i < n → listed.getD i false = true) → wpAny P md ops Q fuel listed (A t) w := by
  intro fuel listed t w h hu hl
  have he:listed=(List.replicate n true++List.replicate (ops.size - n) false).toArray:=by
   apply Array.ext
   ·simp[h.size];omega
   ·intro i h1 h2
    have hsz:=h.size
    simp only[List.getElem_toArray]
    by_cases hi:i<n
    ·have:=hl i hi
     simp[Array.getD,h1]at this
     rw[List.getElem_append_left (by simpa using hi)]
     simpa using this
    ·have:=h.tail i (by omega)
     simp[Array.getD,h1]at this
     rw[List.getElem_append_right (by simpa using hi)]
     simpa using this
  have hf:fuel=(ops.toList.drop n).length:=by
   rw[←hu]
   unfold YV
   have e:ops.size=n+(ops.size - n):=by omega
   rw[e,List.range_add,List.countP_append]
   have z1:(List.range n).countP (fun i=> !listed.getD i true)=0:=by
    rw[List.countP_eq_zero]
    intro i hi
    have hin:=List.mem_range.1 hi
    rw[wP (by rw[h.size];omega) true false,hl i hin]
    decide
   have z2:((List.range (ops.size - n)).map (n+·)).countP (fun i=> !listed.getD i true)=((List.range (ops.size - n)).map (n+·)).length:=by
    rw[List.countP_eq_length]
    intro i hi
    obtain⟨j,hj,rfl⟩:=List.mem_map.1 hi
    have hjn:=List.mem_range.1 hj
    rw[wP (by rw[h.size];omega) true false,h.tail (n+j) (by omega)]
    rfl
   rw[z1,z2]
   simp
  have hw:=fin t w h.below (o8 _ fun k hk=>(h.held k (hl k (by simpa using hk))).1)
  rw[hf]
  refine wpAny_of_seq (md:=md) (ops.toList.drop n) n listed (A t) w (fun j=>by simp[List.getElem?_drop]) ?_ hw
  rw[he]
  simpa using hseq
 intro fuel
 induction fuel with
 |zero=>
  intro listed t w h hu
  refine done 0 listed t w h hu fun i hi=>?_
  cases e:listed.getD i false with
  |true=>rfl
  |false=>
   have:=qR h.size (show i<ops.size by omega) (by rw[wP (by rw[h.size];omega) true false];exact e)
   omega
 | succ fuel ih=>
  intro listed t w h hu
  by_cases hl:∀i,i<n→listed.getD i false=true
  ·exact done (fuel+1) listed t w h hu hl
  have hr0:Region.ready md ops listed≠[]:=fun hr=>hl fun i hi=>uU hN h.size hr (i+1) i (by omega) (by omega)
  refine⟨fun h0=>absurd h0 hr0,fun i hi=>?_⟩
  obtain⟨h0,o,ho,hafter⟩:=mem_ready.1 hi
  have hlt:=(Array.getElem?_eq_some_iff.1 ho).1
  have wQ:∀k ∈ ns.getD i [],listed.getD k false=true:=fun k hk=>by
   obtain⟨e,he,hb,hk⟩:=(vK hN ho).2 k hk
   rcases hk with rfl|hk
   ·exact hafter e he hb
   ·exact(h.held e.on (hafter e he hb)).2 k hk
  have hin:i<n:=by
   rcases Nat.lt_trichotomy i n with hlt'|rfl|hgt
   ·exact hlt'
   ·exact absurd (fun k hk=>wQ k (by
     have:=List.all_eq_true.1 hall k (List.mem_range.2 hk)
     simpa using this)) hl
   ·have h1:=List.all_eq_true.1 hch i (List.mem_range.2 hlt)
    simp only[ho,Bool.or_eq_true,decide_eq_true_eq]at h1
    rcases h1 with h1|h1
    ·omega
    ·obtain⟨e,he,hb⟩:=Array.any_eq_true'.1 h1
     simp only[Bool.and_eq_true,decide_eq_true_eq]at hb
     have h2:=hafter e he hb.1
     rw[h.tail e.on hb.2]at h2
     cases h2
  have hst:=Steps.at (ops.toList.take n) 0 ns steps i o (by rw[List.getElem?_take,if_pos hin];simpa using ho)
  rw[Nat.zero_add]at hst
  refine wpOp_step ho fun K hK=>hst t w h.below (o8 _ fun k hk=>(h.held k (wQ k hk)).1) K fun v w' hb hv=>hK _ _ (ih _ _ _ ⟨⟨h.below.trans (hb.mono h.below.size),by simpa using h.size,fun j hj=>?_⟩,fun j hj=>?_⟩ ?_)
  ·by_cases hji:j=i
   ·subst hji
    refine⟨by simpa[upd]using hv,fun k hk=>getD_set_true (wQ k hk)⟩
   ·rw[getD_set_ne false (Ne.symm hji)]at hj
    have:=h.held j hj
    refine⟨by simp only[upd,if_neg hji];exact(pick R j).stays _ _ _ hb this.1,fun k hk=>getD_set_true (this.2 k hk)⟩
  ·rw[getD_set_ne false (by omega)]
   exact h.tail j hj
  ·have:=qR h.size hlt h0
   omega
theorem bC {id:Nat} {a:Act} {w:World} {l:List Oper} (hm:P.follows .mixedOrders=true) (n:Nat) (R:List Keep) (ns:List (List Nat)) (hB:anL .any l.toArray ns n=true)
  (steps:Steps P l.toArray Q (fun t=>aj t n l 0 a) w R 0 (l.take n) ns)
  (fin:∀t w',Below w.heap.size w w'→Have R t w' (List.range n)→wpList P l.toArray Q (l.drop n) (aj t n l 0 a) w'):(Code.region id l.toArray true).wp P Q a w:=by
 refine wp_region_any hm ?_
 have h:=S9 (P:=P) (Q:=Q) (md:=.any) (ops:=l.toArray) (A:=fun t=>aj t n l 0 a) (w0:=w) (R:=R) (ns:=ns) (n:=n) hB (by simpa using steps) (by simpa using fin) l.length (Array.replicate l.length false) (now (l.take n) a) {w with drawn:=w.drawn+1}
  ⟨⟨⟨rfl,rfl,rfl,Nat.le_refl _,fun _ _=>rfl⟩,by simp,fun i hi=>by
   by_cases h:i<l.length<;>simp[Array.getD,h]at hi⟩,fun i _=>by by_cases h:i<l.length<;>simp[Array.getD,h]⟩ (by
   unfold YV
   have:(List.range l.toArray.size).countP (fun i=> !(Array.replicate l.length false).getD i true)=(List.range l.toArray.size).length:=by
    rw[List.countP_eq_length]
    intro i hi
    have hi':i<l.length:=by simpa using hi
    simp[Array.getD,hi']
   rw[this]
   simp)
 have e:aj (now (l.take n) a) n l 0 a=a:=by rw[Aa];exact uY a (l.take n) (l.take n) 0 (fun j=>by simp)
 have h':wpAny P .any l.toArray Q l.length (Array.replicate l.length false) (aj (now (l.take n) a) n l 0 a) {w with drawn:=w.drawn+1}:=h
 rw[e]at h'
 simpa using h'
end
end Go.Proofs.YtmpeaoacaecgpaaGreatDoor.Regs
namespace Go.Proofs.YtmpeaoacaecgpaaGreatDoor.Regs
open Go.RowKit Base
section
variable {P:Program} {md:Region.Mode} {ops:Array Oper} {Q:Exit→Act→World→Prop}
def YA (md:Region.Mode) (ops:Array Oper) (ns:List (List Nat)) (n:Nat) (pre:List Nat):Bool:=
 decide (n<ops.size)&&DF md ops ns&&((List.range n).all fun k=>pre.contains k||(ns.getD n []).contains k)&&
 ((List.range ops.size).all fun i=>decide (i≤n)||match ops[i]? with
  |none=>false
  |some o=>o.after.any fun e=>Region.binds md e&&decide (n≤e.on))&&
 Region.seqB md ops (ops.size - n) n (List.replicate n true++List.replicate (ops.size - n) false).toArray
theorem SY {A:(Nat→Value)→Act} {w0:World} {R:List Keep} {ns:List (List Nat)} {n:Nat} {pre:List Nat} (hB:YA md ops ns n pre=true) (steps:Steps P ops Q A w0 R 0 (ops.toList.take n) ns)
  (fin:∀t w,Below w0.heap.size w0 w→Have R t w (List.range n)→wpList P ops Q (ops.toList.drop n) (A t) w):
  ∀(fuel:Nat) (listed:Array Bool) (t:Nat→Value) (w:World),InvT ops w0 R ns n listed t w→(∀k ∈ pre,listed.getD k false=true)→YV ops listed=fuel→wpAny P md ops Q fuel listed (A t) w:=by
 unfold YA at hB
 simp only[Bool.and_eq_true,decide_eq_true_eq]at hB
 obtain⟨⟨⟨⟨hn,hN⟩,hall⟩,hch⟩,hseq⟩:=hB
 -- all of the head is listed:the tail,in its order
 have done : ∀ (fuel : Nat) (listed : Array Bool) (t : Nat → Value) (w : World), InvT ops w0 R ns n listed t w → YV ops listed = fuel → (∀ i, i < n → listed.getD i false = true) → wpAny P md ops Q fuel listed (A t) w := by
  intro fuel listed t w h hu hl
  have he:listed=(List.replicate n true++List.replicate (ops.size - n) false).toArray:=by
   apply Array.ext
   ·simp[h.size];omega
   ·intro i h1 h2
    have hsz:=h.size
    simp only[List.getElem_toArray]
    by_cases hi:i<n
    ·have:=hl i hi
     simp[Array.getD,h1]at this
     rw[List.getElem_append_left (by simpa using hi)]
     simpa using this
    ·have:=h.tail i (by omega)
     simp[Array.getD,h1]at this
     rw[List.getElem_append_right (by simpa using hi)]
     simpa using this
  have hf:fuel=(ops.toList.drop n).length:=by
   rw[←hu]
   unfold YV
   have e:ops.size=n+(ops.size - n):=by omega
   rw[e,List.range_add,List.countP_append]
   have z1:(List.range n).countP (fun i=> !listed.getD i true)=0:=by
    rw[List.countP_eq_zero]
    intro i hi
    have hin:=List.mem_range.1 hi
    rw[wP (by rw[h.size];omega) true false,hl i hin]
    decide
   have z2:((List.range (ops.size - n)).map (n+·)).countP (fun i=> !listed.getD i true)=((List.range (ops.size - n)).map (n+·)).length:=by
    rw[List.countP_eq_length]
    intro i hi
    obtain⟨j,hj,rfl⟩:=List.mem_map.1 hi
    have hjn:=List.mem_range.1 hj
    rw[wP (by rw[h.size];omega) true false,h.tail (n+j) (by omega)]
    rfl
   rw[z1,z2]
   simp
  have hw:=fin t w h.below (o8 _ fun k hk=>(h.held k (hl k (by simpa using hk))).1)
  rw[hf]
  refine wpAny_of_seq (md:=md) (ops.toList.drop n) n listed (A t) w (fun j=>by simp[List.getElem?_drop]) ?_ hw
  rw[he]
  simpa using hseq
 intro fuel
 induction fuel with
 |zero=>
  intro listed t w h _ hu
  refine done 0 listed t w h hu fun i hi=>?_
  cases e:listed.getD i false with
  |true=>rfl
  |false=>
   have:=qR h.size (show i<ops.size by omega) (by rw[wP (by rw[h.size];omega) true false];exact e)
   omega
 | succ fuel ih=>
  intro listed t w h hpre hu
  by_cases hl:∀i,i<n→listed.getD i false=true
  ·exact done (fuel+1) listed t w h hu hl
  have hr0:Region.ready md ops listed≠[]:=fun hr=>hl fun i hi=>uU hN h.size hr (i+1) i (by omega) (by omega)
  refine⟨fun h0=>absurd h0 hr0,fun i hi=>?_⟩
  obtain⟨h0,o,ho,hafter⟩:=mem_ready.1 hi
  have hlt:=(Array.getElem?_eq_some_iff.1 ho).1
  have wQ:∀k ∈ ns.getD i [],listed.getD k false=true:=fun k hk=>by
   obtain⟨e,he,hb,hk⟩:=(vK hN ho).2 k hk
   rcases hk with rfl|hk
   ·exact hafter e he hb
   ·exact(h.held e.on (hafter e he hb)).2 k hk
  have hin:i<n:=by
   rcases Nat.lt_trichotomy i n with hlt'|rfl|hgt
   ·exact hlt'
   ·exact absurd (fun k hk=>by
     have h1:=List.all_eq_true.1 hall k (List.mem_range.2 hk)
     simp only[Bool.or_eq_true,List.contains_iff_mem]at h1
     exact h1.elim (fun h1=>hpre k h1) (fun h1=>wQ k h1)) hl
   ·have h1:=List.all_eq_true.1 hch i (List.mem_range.2 hlt)
    simp only[ho,Bool.or_eq_true,decide_eq_true_eq]at h1
    rcases h1 with h1|h1
    ·omega
    ·obtain⟨e,he,hb⟩:=Array.any_eq_true'.1 h1
     simp only[Bool.and_eq_true,decide_eq_true_eq]at hb
     have h2:=hafter e he hb.1
     rw[h.tail e.on hb.2]at h2
     cases h2
  have hst:=Steps.at (ops.toList.take n) 0 ns steps i o (by rw[List.getElem?_take,if_pos hin];simpa using ho)
  rw[Nat.zero_add]at hst
  refine wpOp_step ho fun K hK=>hst t w h.below (o8 _ fun k hk=>(h.held k (wQ k hk)).1) K fun v w' hb hv=>hK _ _ (ih _ _ _ ⟨⟨h.below.trans (hb.mono h.below.size),by simpa using h.size,fun j hj=>?_⟩,fun j hj=>?_⟩ (fun k hk=>getD_set_true (hpre k hk)) ?_)
  ·by_cases hji:j=i
   ·subst hji
    refine⟨by simpa[upd]using hv,fun k hk=>getD_set_true (wQ k hk)⟩
   ·rw[getD_set_ne false (Ne.symm hji)]at hj
    have:=h.held j hj
    refine⟨by simp only[upd,if_neg hji];exact(pick R j).stays _ _ _ hb this.1,fun k hk=>getD_set_true (this.2 k hk)⟩
  ·rw[getD_set_ne false (by omega)]
   exact h.tail j hj
  ·have:=qR h.size hlt h0
   omega
def anE (k:Nat) (listed:Array Bool) (ns:List (List Nat)) (n:Nat) (pre:List Nat):Bool:=
 decide (listed.size=k)&&((List.range k).all fun i=>listed.getD i false==pre.contains i)&&(pre.all fun i=>decide (i<n)&&(ns.getD i []).all fun j=>pre.contains j)
theorem ab7 {l:List Oper} {a:Act} {w:World} (n:Nat) (R:List Keep) (ns:List (List Nat)) (pre:List Nat) {listed:Array Bool} {fuel:Nat} (hB:YA .any l.toArray ns n pre=true) (hS:anE l.length listed ns n pre=true) (hF:YV l.toArray listed=fuel)
  (h0:∀k ∈ pre,(pick R k).says (now (l.take n) a k) w)
  (steps:Steps P l.toArray Q (fun t=>aj t n l 0 a) w R 0 (l.take n) ns)
  (fin:∀t w',Below w.heap.size w w'→Have R t w' (List.range n)→wpList P l.toArray Q (l.drop n) (aj t n l 0 a) w'):wpAny P .any l.toArray Q fuel listed a w:=by
 unfold anE at hS
 simp only[Bool.and_eq_true,decide_eq_true_eq]at hS
 obtain⟨⟨hsz,hl⟩,hp⟩:=hS
 have hin:∀i,listed.getD i false=pre.contains i:=fun i=>by
  by_cases hi:i<l.length
  ·have:=List.all_eq_true.1 hl i (List.mem_range.2 hi)
   simpa using this
  ·have h1:listed.getD i false=false:=by simp[Array.getD,hsz,hi]
   have h2:pre.contains i=false:=by
    cases e:pre.contains i with
    |false=>rfl
    |true=>
     have:=List.all_eq_true.1 hp i (by simpa using e)
     simp only[Bool.and_eq_true,decide_eq_true_eq]at this
     have hn:n<l.toArray.size:=by
      unfold YA at hB
      simp only[Bool.and_eq_true,decide_eq_true_eq]at hB
      exact hB.1.1.1.1
     simp at hn
     omega
   rw[h1,h2]
 have h := SY (P := P) (Q := Q) (md := .any) (ops := l.toArray) (A := fun t => aj t n l 0 a) (w0 := w) (R := R) (ns := ns) (n := n) (pre := pre) hB (by simpa using steps) (by simpa using fin) fuel listed (now (l.take n) a) w
  ⟨⟨Below.refl _ _,by simpa using hsz,fun i hi=>by
   rw[hin]at hi
   have hm:i ∈ pre:=by simpa using hi
   have:=List.all_eq_true.1 hp i hm
   simp only[Bool.and_eq_true,decide_eq_true_eq]at this
   exact⟨h0 i hm,fun k hk=>by rw[hin];exact List.all_eq_true.1 this.2 k hk⟩⟩,fun i hi=>by
    rw[hin]
    cases e:pre.contains i with
    |false=>rfl
    |true=>
     have:=List.all_eq_true.1 hp i (by simpa using e)
     simp only[Bool.and_eq_true,decide_eq_true_eq]at this
     omega⟩ (fun k hk=>by rw[hin];simpa using hk) hF
 have e:aj (now (l.take n) a) n l 0 a=a:=by rw[Aa];exact uY a (l.take n) (l.take n) 0 (fun j=>by simp)
 have h':wpAny P .any l.toArray Q fuel listed (aj (now (l.take n) a) n l 0 a) w:=h
 rwa[e]at h'
end
end Go.Proofs.YtmpeaoacaecgpaaGreatDoor.Regs
namespace Go.Proofs.YtmpeaoacaecgpaaGreatDoor.uw
open Go.RowKit Base Base2 Base3 Regs
def nT (g:Nat):Value:=.pointer (some ⟨g,0,none⟩)
section
variable {α:Type} (enc:α→Value)
def flat (l:List (Nat×α)):List Value:=l.flatMap fun p=>[.int .i64 (p.1:Int),enc p.2]
theorem flat_nil:flat enc []=[]:=rfl
theorem kM (p:Nat×α) (l:List (Nat×α)):flat enc (p::l)=.int .i64 (p.1:Int)::enc p.2::flat enc l:=rfl
theorem MP (a b:List (Nat×α)):flat enc (a++b)=flat enc a++flat enc b:=by simp[flat]
theorem KG (l:List (Nat×α)) (k:Nat):(flat enc l).drop (k*2)=flat enc (l.drop k):=by
 induction l generalizing k with
 |nil=>simp[flat_nil]
 |cons p l ih=>
  cases k with
  |zero=>simp
  |succ k=>rw[Nat.succ_mul,kM,List.drop_succ_cons,List.drop_succ_cons,ih,List.drop_succ_cons]
theorem EH (l:List (Nat×α)) (k:Nat) (h:k<l.length):(flat enc l)[k*2]?=some (.int .i64 (l[k].1:Int))∧(flat enc l)[k*2+1]?=some (enc l[k].2):=by
 have e:flat enc (l.drop k)=.int .i64 (l[k].1:Int)::enc l[k].2::flat enc (l.drop (k+1)):=by rw[List.drop_eq_getElem_cons h,kM]
 rw[←KG]at e
 constructor
 ·have:=congrArg (fun x=>x[0]?) e
  simpa using this
 have:=congrArg (fun x=>x[1]?) e
 simpa using this
end
def idx {α:Type} (l:List (Nat×α)) (h:Int):Option Nat:=l.findIdx? fun p=>decide ((p.1:Int)=h)
theorem vH {α:Type} {l:List (Nat×α)} {h:Int} {k:Nat} (e:idx l h=some k):∃hk:k<l.length,(l[k].1:Int)=h∧∀j (hj:j<k),¬((l[j]'(Nat.lt_trans hj hk)).1:Int)=h:=by
 unfold idx at e
 rw[List.findIdx?_eq_some_iff_getElem]at e
 obtain⟨hk,h1,h2⟩:=e
 exact⟨hk,by simpa using h1,fun j hj=>by simpa using h2 j hj⟩
theorem Qz {α:Type} {l:List (Nat×α)} {h:Int} (e:idx l h=none):∀k (hk:k<l.length),¬(l[k].1:Int)=h:=by
 unfold idx at e
 rw[List.findIdx?_eq_none_iff]at e
 intro k hk
 have:=e l[k] (List.getElem_mem _)
 simpa using this
def Kp (T E:TypeId) (w w':World):Prop:=∀(k:Nat) (o:Obj),w.heap[k]?=some o→(∀cs m,o≠.cells cs T m∧o≠.cells cs E m)→w'.heap[k]?=some o
theorem Kp.trans {T E:TypeId} {a b c:World} (h:Kp T E a b) (k:Kp T E b c):Kp T E a c:=fun i o e h1=>k i o (h i o e h1) h1
theorem Kp.below {T E:TypeId} {w w':World} (hb:Below w.heap.size w w'):Kp T E w w':=fun k o h _=>(hb.block k (Array.getElem?_eq_some_iff.1 h).1).trans h
theorem Kp.cells {T E:TypeId} {w w':World} (h:Kp T E w w') {k:Nat} {cs:Array Value} {t:TypeId} {m:Nat×Nat} (e:w.heap[k]?=some (.cells cs t m)) (h1:t≠T) (h2:t≠E):w'.heap[k]?=some (.cells cs t m):=h k _ e fun cs' m'=>⟨fun x=>by injection x with _ x;exact h1 x,fun x=>by injection x with _ x;exact h2 x⟩
theorem Kp.set {T E:TypeId} {w:World} {g i:Nat} {x:Value} {C:Array Value} {mk:Nat×Nat} {t:TypeId} (h:w.heap[g]?=some (.cells C t mk)) (ht:t=T∨t=E):Kp T E w (w.setCell ⟨g,i,none⟩ x):=fun k o e h1=>by
 have hne:k≠g:=by
  rintro rfl
  rw[h]at e
  injection e with e
  subst e
  rcases ht with rfl|rfl
  ·exact(h1 C mk).1 rfl
  exact(h1 C mk).2 rfl
 exact(heap_setCell_other w ⟨g,i,none⟩ k x hne).trans e
theorem Kp.grown {T E:TypeId} {w w':World} {B n m:Nat} {v:Value} {xs:List Value} (ho:w.ownsRow B E n v m xs) (hg:w.grownBy w' v.ownBlock):Kp T E w w':=fun k o e h1=>by
 have hlt:=(Array.getElem?_eq_some_iff.1 e).1
 refine(hg.block k hlt fun hk=>?_).trans e
 rcases ho.2 with⟨rfl,_⟩|⟨b,cap,cur,rfl,_,hb,_⟩
 ·cases hk
 have e2:k=b:=by injection hk
 subst e2
 rw[hb]at e
 injection e with e
 exact(h1 cur (0,0)).2 e.symm
theorem Kp.owns {T E:TypeId} {w w':World} (h:Kp T E w w') {B n m:Nat} {E':TypeId} {v:Value} {xs:List Value} (ho:w.ownsRow B E' n v m xs) (h1:E'≠T) (h2:E'≠E):w'.ownsRow B E' n v m xs:=by
 refine⟨ho.1,?_⟩
 rcases ho.2 with h'|⟨b,cap,cur,rfl,hB,hb,r⟩
 ·exact .inl h'
 exact .inr ⟨b,cap,cur,rfl,hB,h.cells hb h1 h2,r⟩
def Ny (T E:TypeId) {α:Type} (enc:α→Value) (B g room last:Nat) (l:List (Nat×α)) (w:World):Prop:=∃v,w.heap[g]?=some (.cells #[.int .i64 (room:Int),.int .i64 (last:Int),v] T (0,0))∧w.ownsRow B E 2 v l.length (flat enc l)∧B≤g
section
variable {T E:TypeId} {α:Type} {enc:α→Value} {B g room last:Nat} {l:List (Nat×α)} {w w':World}
theorem own_ne (hTE:T≠E) {v:Value} {n m:Nat} {xs:List Value} {C:Array Value} {mk:Nat×Nat} (h:w.heap[g]?=some (.cells C T mk)) (ho:w.ownsRow B E n v m xs):v.ownBlock≠some g:=by
 rcases ho.2 with⟨rfl,_⟩|⟨b,cap,cur,rfl,_,hb,_⟩
 ·intro h;cases h
 intro e
 injection e with e
 have e:b=g:=e
 subst e
 rw[h]at hb
 injection hb with hb
 injection hb with _ hb
 exact hTE hb
theorem Ny.lt (h:Ny T E enc B g room last l w):g<w.heap.size:=by obtain⟨v,h,_⟩:=h;exact(Array.getElem?_eq_some_iff.1 h).1
theorem Ny.below (h:Ny T E enc B g room last l w) (hb:Below w.heap.size w w'):Ny T E enc B g room last l w':=by
 have hl:=h.lt
 obtain⟨v,h1,h2,h3⟩:=h
 exact⟨v,(hb.block g hl).trans h1,aP h2 hb,h3⟩
theorem uh {v x:Value} {n m i:Nat} {xs:List Value} (ho:w.ownsRow B E n v m xs) (hne:v.ownBlock≠some g):(w.setCell ⟨g,i,none⟩ x).ownsRow B E n v m xs:=by
 refine⟨ho.1,?_⟩
 rcases ho.2 with h|⟨b,cap,cur,rfl,hB,hb,r⟩
 ·exact .inl h
 exact .inr ⟨b,cap,cur,rfl,hB,(heap_setCell_other w _ _ _ (fun e=>hne (congrArg some e))).trans hb,r⟩
end
theorem cells3 {w:World} {g:Nat} {a b c:Value} {T:TypeId} {mk:Nat×Nat} (h:w.heap[g]?=some (.cells #[a,b,c] T mk)):w.cell? ⟨g,0,none⟩=some a∧w.cell? ⟨g,1,none⟩=some b∧w.cell? ⟨g,2,none⟩=some c:=
 ⟨(cell_of_row w g 0 _ _ _ h).trans rfl,(cell_of_row w g 1 _ _ _ h).trans rfl,(cell_of_row w g 2 _ _ _ h).trans rfl⟩
theorem anN {w:World} {g:Nat} {a b c:Value} {T:TypeId} (h:w.heap[g]?=some (.cells #[a,b,c] T (0,0))):w.frozen? ⟨g,0,none⟩=false∧w.frozen? ⟨g,1,none⟩=false∧w.frozen? ⟨g,2,none⟩=false:=
 ⟨frozen_of_row w g 0 _ _ h,frozen_of_row w g 1 _ _ h,frozen_of_row w g 2 _ _ h⟩
theorem aaW {E:TypeId} {B n m:Nat} {w:World} {v:Value} {xs:List Value} (h:w.ownsRow B E n v m xs):∃A c,v=.slice A m c∧m≤c:=by
 rcases h.2 with⟨rfl,h0⟩|⟨b,cap,cur,rfl,hB,hb,h1,_⟩
 ·exact⟨none,0,by rw[h0],by omega⟩
 exact⟨_,cap,rfl,h1⟩
def one2 (x y:Value):Keep:=⟨fun u w=>∃b,u=.slice (some ⟨b,0,none⟩) 1 1∧b<w.heap.size∧w.cell? ⟨b,0,none⟩=some x∧w.cell? ⟨b,1,none⟩=some y,fun _ _ _ hb ⟨b,h1,h2,h3,h4⟩=>⟨b,h1,Nat.lt_of_lt_of_le h2 hb.size,(hb.cell (p:=⟨b,0,none⟩) h2).trans h3,(hb.cell (p:=⟨b,1,none⟩) h2).trans h4⟩⟩
theorem lY {E:TypeId} {α:Type} {enc:α→Value} {B:Nat} {w:World} {v:Value} {l:List (Nat×α)} (h:w.ownsRow B E 2 v l.length (flat enc l)):∃A c,v=.slice A l.length c∧l.length≤c∧c≤maxLen∧∀k (hk:k<l.length),∃b,A=some ⟨b,0,none⟩∧b<w.heap.size∧w.cell? ⟨b,k*2,none⟩=some (.int .i64 (l[k].1:Int))∧w.cell? ⟨b,k*2+1,none⟩=some (enc l[k].2):=by
 rcases h.2 with⟨rfl,h0⟩|⟨b,cap,cur,rfl,hB,hb,h1,h2,h3,h4⟩
 ·exact⟨none,0,by rw[h0],by omega,Nat.zero_le _,fun k hk=>absurd hk (by omega)⟩
 refine⟨_,cap,rfl,h1,h2,fun k hk=>⟨b,rfl,(Array.getElem?_eq_some_iff.1 hb).1,?_,?_⟩⟩
 ·rw[cell_of_row w b _ cur E (0,0) hb,←(EH enc l k hk).1,←h4,List.getElem?_take,if_pos (by omega),Array.getElem?_toList]
 rw[cell_of_row w b _ cur E (0,0) hb,←(EH enc l k hk).2,←h4,List.getElem?_take,if_pos (by omega),Array.getElem?_toList]
end Go.Proofs.YtmpeaoacaecgpaaGreatDoor.uw
namespace Go.Proofs.YtmpeaoacaecgpaaGreatDoor.TbB
open Go.RowKit Base Base2 Base3 Regs uw
theorem afH:(Tryz.prog.info? 248).map (fun i=>(i.zero,i.size,i.bytes))=some (some (.agg #[.int .i64 0,.pointer none]),2,16):=by kernel_rfl
theorem put_any (B g room last:Nat) (l:List (Nat×Nat)) (x:Nat) (w:World) (h:Ny 240 248 (uw.nT) B g room last l w) (hr:l.length<room) (hm:room≤64) (hlast:last≤100000):
  Calls Tryz.prog 194 #[.pointer (some ⟨g,0,none⟩),.pointer (some ⟨x,0,none⟩)] w fun e w'=>e=.returned (.tuple #[.int .i64 ((last:Int)+1),.int .i64 0])∧Ny 240 248 (uw.nT) B g room (last+1) (l++[(last+1,x)]) w'∧Below B w w'∧Kp 240 248 w w':=by
 obtain⟨i0,hi0,hz0,hz1,hz2⟩:=info_parts afH
 have hlt:=h.lt
 obtain⟨v,hv,hown,hBg⟩:=h
 obtain⟨A,c,rfl,hnc,hcm,_⟩:=lY hown
 obtain⟨c0,c1,c2⟩:=cells3 hv
 obtain⟨f0,f1,f2⟩:=anN hv
 have hroom:¬(room:Int)≤(l.length:Int):=by omega
 have hll:(l.length:Int)≤64:=by omega
 have hlasti:(last:Int)≤100000:=by omega
 go_enter Tryz.func194,Tryz.ntmps194
 go_wp2_with fail
 go_quiet (fail)
 have hv1:(w.drewN nq).heap[g]?=some (.cells #[.int .i64 (room:Int),.int .i64 (last:Int),.slice A l.length c] 240 (0,0)):=by rw[World.heap_drewN];exact hv
 have hb1:Below w.heap.size w (w.drewN nq):=Base.below_drewN (Below.refl _ _) _
 have hown1:=aP hown hb1
 generalize w.drewN nq=w1 at hv1 hown1 hb1⊢
 clear c0 c1 c2 f0 f1 f2
 obtain⟨c0,c1,c2⟩:=cells3 hv1
 obtain⟨f0,f1,f2⟩:=anN hv1
 go_wp2_with fail
 have hv2:=heap_setCell_same w1 g 1 _ _ (.int .i64 ((last:Int)+1)) hv1
 have hown2:=uh (g:=g) (i:=1) (x:=.int .i64 ((last:Int)+1)) hown1 (own_ne (by decide) hv1 hown1)
 have NU:Hid (Below B w (w1.setCell ⟨g,1,none⟩ (.int .i64 ((last:Int)+1)))):=(hb1.mono (by omega)).setCell (p:=⟨g,1,none⟩) hBg _
 have HKW:Hid (Kp 240 248 w (w1.setCell ⟨g,1,none⟩ (.int .i64 ((last:Int)+1)))):=(Kp.below hb1).trans (Kp.set hv1 (.inl rfl))
 generalize hw2:w1.setCell _ _=w2 at hv2 hown2 NU HKW⊢
 clear c0 c1 c2 f0 f1 f2 hw2 hv hown hv1 hown1 hb1
 have HV:Hid (w2.heap[g]?=some (.cells #[.int .i64 (room:Int),.int .i64 ((last:Int)+1),.slice A l.length c] 240 (0,0))):=by show _=_;simpa using hv2
 obtain⟨c0,c1,c2⟩:=cells3 HV.out
 have HO:=hid hown2
 have sQ:Hid (g<w2.heap.size):=(Array.getElem?_eq_some_iff.1 HV.out).1
 have HBL:Hid (B≤w.heap.size):=by show _≤_;omega
 clear hv2 hown2
 generalize decide (room≤l.length)=dd
 refine wp_region_any (by kernel_rfl) ?_
 change wpAny _ _ _ _ _ _ _ (World.drew _)
 refine wpAny_take (i:=0) (v:=(.pointer (some ⟨g,0,none⟩))) rfl (by kernel_rfl) (by kernel_rfl) (by kernel_rfl) (fun _ _ _ h=>h) (Or.inl ⟨by rfl,?yy0⟩) ?_
 case yy0=>(intro w;go_simp;try with_reducible rfl)
 simp only[List.getElem_toArray,List.getElem_cons_zero,List.getElem_cons_succ,Act.put,List.setIfInBounds_toArray,List.set_cons_zero,List.set_cons_succ]
 refine ab7 12 [is (.pointer (some ⟨g,0,none⟩)),is (.pointer (some ⟨g,0,none⟩)),is (.pointer (some ⟨g,0,none⟩)),is (.pointer (some ⟨g,2,none⟩)),is (.slice A l.length c),is (.pointer (some ⟨g,0,none⟩)),is (.pointer (some ⟨g,0,none⟩)),is (.pointer (some ⟨g,1,none⟩)),is (.int .i64 ((last:Int)+1)),is (.pointer (some ⟨x,0,none⟩)),is (.agg #[.int .i64 ((last:Int)+1),.pointer (some ⟨x,0,none⟩)]),one2 (.int .i64 ((last:Int)+1)) (.pointer (some ⟨x,0,none⟩))] [[],[],[1],[1,2],[1,2,3],[],[5],[5,6],[5,6,7],[],[5,6,7,8,9],[5,6,7,8,9,10],[1,2,3,4,5,6,7,8,9,10,11]] [0] (by kernel_rfl) (by kernel_rfl) (by kernel_rfl) ?_ ?_ ?_
 ·intro k hk;simp only[List.mem_cons,List.not_mem_nil,or_false]at hk;subst hk;rfl
 ·refine⟨?_,?_,?_,?_,?_,?_,?_,?_,?_,?_,?_,?_,trivial⟩
  all_goals(intro t wq hbq hh K hK;simp only[filled,aj,upd,Have,is,any,row,pick,Act.put,List.setIfInBounds_toArray,List.set_cons_zero,List.set_cons_succ,Nat.reduceAdd,Nat.reduceEqDiff,reduceIte,List.tail_cons,List.headD_cons]at hh hK⊢;(try simp only[hh]at hK⊢);try clear hh)
  iterate 4 · go_simp;exact hK _ _ (Below.refl _ _) rfl
  ·have hq:=(hbq.cell (p:=⟨g,2,none⟩) sQ.out).trans c2;go_simp;exact hK _ _ (Below.refl _ _) rfl
  iterate 3 · go_simp;exact hK _ _ (Below.refl _ _) rfl
  ·have hq:=(hbq.cell (p:=⟨g,1,none⟩) sQ.out).trans c1;go_simp;exact hK _ _ (Below.refl _ _) rfl
  iterate 2 · go_simp;exact hK _ _ (Below.refl _ _) rfl
  ·go_simp;go_simp;exact hK _ _ ((Below.refl _ _).alloc (Nat.le_refl _) _) ⟨wq.heap.size,rfl,by simp,(cell_of_row _ wq.heap.size 0 _ _ _ (heap_alloc_new wq _)).trans rfl,(cell_of_row _ wq.heap.size 1 _ _ _ (heap_alloc_new wq _)).trans rfl⟩
 ·intro t wq hbq hh
  have f0:=aB hh 0 (by decide)
  simp only[pick]at f0
  replace f0:t 0=(.pointer (some ⟨g,0,none⟩)):=f0
  have f4:=aB hh 4 (by decide)
  simp only[pick]at f4
  replace f4:t 4=(.slice A l.length c):=f4
  have f11:=aB hh 11 (by decide)
  simp only[pick]at f11
  clear hh
  simp only[filled,aj,upd,Have,is,any,row,pick,Act.put,List.setIfInBounds_toArray,List.set_cons_zero,List.set_cons_succ,Nat.reduceAdd,Nat.reduceEqDiff,reduceIte]
  simp only[f0,f4]
  obtain⟨b,f11,hbl,q0,q1⟩:=f11
  simp only[f11]
  have hvq:wq.heap[g]?=some (.cells #[.int .i64 (room:Int),.int .i64 ((last:Int)+1),.slice A l.length c] 240 (0,0)):=(hbq.block g sQ.out).trans HV.out
  have hoq:wq.ownsRow B 248 2 (.slice A l.length c) l.length (flat (uw.nT) l):=aP (w:=w2.drew) HO.out hbq
  have hlq:g<wq.heap.size:=Nat.lt_of_lt_of_le sQ.out hbq.size
  have HVQ:=hid hvq
  have HLQ:=hid hlq
  have Q0:=hid q0
  have Q1:=hid q1
  clear hvq hlq q0 q1
  show wpList _ _ _ [_,_,_,_] _ _
  refine wpList_append_own _ rfl _ _ 238 rfl B 248 i0 _ 2 16 Tryz.underlying238 hi0 hz0 hz1 hz2 rfl (by decide) (.slice A l.length c) l.length (flat (uw.nT) l) rfl hoq ⟨b,0,none⟩ 1 1 [.int .i64 ((last:Int)+1),.pointer (some ⟨x,0,none⟩)] rfl rfl ?d1 (by intro u hu;simp at hu;rcases hu with rfl|rfl<;>rfl) ?d2 ?d3 ?d4 ?_
  case d1=>intro j u hj;match j,hj with|0,hj=>(simp at hj;subst hj;simpa[Addr.add]using Q0.out)|1,hj=>(simp at hj;subst hj;simpa[Addr.add]using Q1.out)
  case d2=>unfold maxLen;omega
  case d3=>omega
  case d4=>have:=HLQ.out;omega
  intro v' w4 hown' hgrow _
  have hv4:w4.heap[g]?=some (.cells #[.int .i64 (room:Int),.int .i64 ((last:Int)+1),.slice A l.length c] 240 (0,0)):=(hgrow.block g HLQ.out (fun e=>own_ne (by decide) HVQ.out hoq e.symm)).trans HVQ.out
  have hbw4:Below B w w4:=(NU.out.drew.trans (hbq.mono (Nat.le_trans HBL.out NU.out.size))).grown hgrow (by have:=HLQ.out;omega) (fun k hk=>(hoq.lt k hk).1)
  have hkp4:Kp 240 248 w w4:=((show Kp 240 248 w w2.drew from HKW.out).trans (Kp.below hbq)).trans (Kp.grown hoq hgrow)
  have hT5:=heap_setCell_same w4 g 2 _ _ v' hv4
  have hown5:(w4.setCell ⟨g,2,none⟩ v').ownsRow B 248 2 v' (l.length+1) (flat (uw.nT) l++[.int .i64 ((last:Int)+1),.pointer (some ⟨x,0,none⟩)]):=uh hown' (own_ne (by decide) hv4 hown')
  have H5:Hid (Ny 240 248 (uw.nT) B g room (last+1) (l++[(last+1,x)]) (w4.setCell ⟨g,2,none⟩ v')):=by
   refine⟨v',by simpa using hT5,?_,hBg⟩
   rw[List.length_append,MP]
   exact hown5
  have iG:Hid (Below B w (w4.setCell ⟨g,2,none⟩ v')):=hbw4.setCell (p:=⟨g,2,none⟩) hBg _
  have HK5:Hid (Kp 240 248 w (w4.setCell ⟨g,2,none⟩ v')):=hkp4.trans (Kp.set hv4 (.inl rfl))
  obtain⟨k0,k1,k2⟩:=cells3 hv4
  obtain⟨m0,m1,m2⟩:=anN hv4
  obtain⟨n0,n1,n2⟩:=cells3 hT5
  obtain⟨vA,vc,hvf,_⟩:=aaW hown'
  subst hvf
  clear hoq hown' hgrow hv4 hbw4 hkp4 hT5 hown5
  go_wp2
  go_ret2
  exact⟨rfl,H5.out,iG.out,HK5.out⟩
theorem KF (hb k:Nat) (x:Nat) (h:Int) (w:World) (hc:w.cell? ⟨hb,0,none⟩=some (.int .i64 h)):Calls Tryz.prog 303 #[.agg #[.int .i64 (k:Int),.pointer (some ⟨x,0,none⟩)],.pointer (some ⟨hb,0,none⟩)] w fun e w'=>e=.returned (.bool (decide ((k:Int)=h)))∧Below w.heap.size w w':=by
 have hlt:=World.block_lt_of_cell? w _ hc
 go_enter Tryz.func303,Tryz.ntmps303
 go_wp2
 go_ret
 exact⟨ak (by rw[Bool.eq_iff_iff];simp),(Below.refl _ _).alloc (Nat.le_refl _) _⟩
def zA:Option Nat→Int
 |none=> -1
 |some k=>k
theorem KO (A : Option Addr) (c hb : Nat) (l : List (Nat × Nat)) (h : Int) (w : World) (hl : l.length ≤ 64)
  (hcell:∀k (hk:k<l.length),∃b,A=some ⟨b,0,none⟩∧b<w.heap.size∧w.cell? ⟨b,k*2,none⟩=some (.int .i64 (l[k].1:Int))∧w.cell? ⟨b,k*2+1,none⟩=some ((uw.nT) l[k].2)) (hc:w.cell? ⟨hb,0,none⟩=some (.int .i64 h)):
  Calls Tryz.prog 302 #[.slice A l.length c,.func (.func 303) #[] #[.pointer (some ⟨hb,0,none⟩)]] w fun e w'=>e=.returned (.int .i64 (zA (idx l h)))∧Below w.heap.size w w':=by
 have hhb:=World.block_lt_of_cell? w _ hc
 have HC:=hid hcell
 have HH:=hid hc
 have hlli:(l.length:Int)≤64:=by omega
 clear hcell hc
 rcases Nat.eq_zero_or_pos l.length with h0|h0
 ·have hi:idx l h=none:=by
   have:l=[]:=List.eq_nil_of_length_eq_zero h0
   subst this
   rfl
  rw[hi]
  go_enter Tryz.func302,Tryz.ntmps302
  go_wp2
  go_loopw [5,8] (fun _ vk wr=>vk=.int .i64 0∧wr=w) (fun _ _ _=>0)
  case atStart=>exact⟨rfl,rfl⟩
  case round=>
   obtain⟨rfl,rfl⟩:=hrel
   go_wp2
   go_ret
   exact⟨rfl,Below.refl _ _⟩
 ·obtain ⟨b,rfl,hbl,_⟩:=HC.out 0 h0
  go_enter Tryz.func302,Tryz.ntmps302
  go_wp2
  go_loopw [5,8] (fun _ vk wr=>∃j:Nat,j≤l.length∧vk=.int .i64 (j:Int)∧Hid (Below w.heap.size w wr)∧Hid (∀k (hk:k<l.length),k<j→¬(l[k].1:Int)=h)) (fun _ vk _=>l.length - (intOf vk).toNat)
  case atStart=>exact⟨0,Nat.zero_le _,rfl,Below.refl _ _,fun k _ hk=>absurd hk (by omega)⟩
  case round=>
   obtain⟨j,hj,rfl,HB,HN⟩:=hrel
   by_cases hlt:j<l.length
   ·obtain ⟨b',e,_,hc0,hc1⟩:=HC.out j hlt
    injection e with e
    injection e with e
    subst e
    obtain⟨⟨hd,x⟩,hp⟩:∃p,p=l[j]:=⟨_,rfl⟩
    rw[←hp]at hc0 hc1
    have k0:=(HB.out.cell (p:=⟨b,j*2,none⟩) hbl).trans hc0
    have k1:=(HB.out.cell (p:=⟨b,j*2+1,none⟩) hbl).trans hc1
    have HHC:=hid ((HB.out.cell (p:=⟨hb,0,none⟩) hhb).trans HH.out)
    have HP:=hid hp
    clear hc0 hc1 hp
    go_wp2_with fail
    refine(KF hb hd x h _ HHC.out).mono ?_
    rintro e w1 ⟨rfl,hb1⟩
    have HB1:=hid (HB.out.trans (hb1.mono HB.out.size))
    clear hb1
    by_cases hq:(hd:Int)=h
    ·have HI:Hid (zA (idx l h)=(j:Int)):=by
      show _=_
      cases hx:idx l h with
      |none=>exact absurd (by rw[←HP.out];exact hq) (Qz hx j hlt)
      |some k=>
       obtain⟨hk,e1,e2⟩:=vH hx
       show(k:Int)=j
       rcases Nat.lt_trichotomy k j with h1|h1|h1
       ·exact absurd e1 (HN.out k hk h1)
       ·rw[h1]
       ·exact absurd (by rw[←HP.out];exact hq) (e2 j h1)
     rw[decide_eq_true hq]
     clear hq
     go_wp2
     go_ret
     exact⟨iw HI.out.symm,HB1.out⟩
    ·rw[decide_eq_false hq]
     have xE:Hid (∀k (hk:k<l.length),k<j+1→¬(l[k].1:Int)=h):=fun k hk hkj=>by
      by_cases e:k=j
      ·subst e;rw[←HP.out];exact hq
      ·exact HN.out k hk (by omega)
     clear hq
     go_wp2
     go_roundw
     case rel=>exact⟨j+1,by omega,by go_num,HB1.out,xE.out⟩
     case measure=>simp[intOf];omega
   ·obtain rfl:j=l.length:=by omega
    have HI:Hid (idx l h=none):=by
     show _=_
     cases hx:idx l h with
     |none=>rfl
     |some k=>obtain⟨hk,e1,_⟩:=vH hx;exact absurd e1 (HN.out k hk hk)
    go_wp2
    go_ret
    exact⟨iw (by rw[HI.out];rfl),HB.out⟩
theorem Dt (B g room last:Nat) (l:List (Nat×Nat)) (h:Int) (w:World) (hT:Ny 240 248 (uw.nT) B g room last l w) (hl:l.length≤64):
  Calls Tryz.prog 270 #[.pointer (some ⟨g,0,none⟩),.int .i64 h] w fun e w'=>e=.returned (.tuple #[.int .i64 (zA (idx l h)),.bool (idx l h).isSome])∧Below w.heap.size w w':=by
 have hlt:=hT.lt
 obtain⟨v,hv,hown,hBg⟩:=hT
 obtain⟨A,c,rfl,hnc,hcm,hcell⟩:=lY hown
 obtain⟨c0,c1,c2⟩:=cells3 hv
 have HC:=hid hcell
 have hb0:Below w.heap.size w (w.alloc (.cells #[.int .i64 h] 2)):=(Below.refl _ _).alloc (Nat.le_refl _) _
 clear hcell hv hown
 go_enter Tryz.func270,Tryz.ntmps270
 go_wp2_with fail
 refine(KO A c w.heap.size l h _ hl (fun k hk=>?_) (by rw[World.cell?_alloc_mark];rfl)).mono ?_
 ·obtain⟨b,e,h1,h2,h3⟩:=HC.out k hk
  exact⟨b,e,Nat.lt_of_lt_of_le h1 hb0.size,(hb0.cell (p:=⟨b,k*2,none⟩) h1).trans h2,(hb0.cell (p:=⟨b,k*2+1,none⟩) h1).trans h3⟩
 rintro e w1 ⟨rfl,hb1⟩
 have HB:=hid (bel hb0 hb1)
 clear hb0 hb1
 cases hi:idx l h with
 |none=>
  have HI:=hid hi
  clear hi
  rw[show zA none= -1 from rfl]
  go_wp2
  go_ret2
  exact⟨by rw[HI.out];rfl,HB.out⟩
 |some k=>
  rw[show zA (some k)=(k:Int)from rfl]
  have HI:=hid hi
  clear hi
  go_wp2
  go_ret2
  exact⟨by rw[HI.out];rfl,HB.out⟩
def got (l:List (Nat×Nat)) (h:Int):Value:=match idx l h with
 |none=>.tuple #[.pointer none,.bool false]
 |some k=>match l[k]? with
  |none=>undef
  |some p=>.tuple #[(uw.nT) p.2,.bool true]
theorem get_any (B g room last:Nat) (l:List (Nat×Nat)) (h:Int) (w:World) (hT:Ny 240 248 (uw.nT) B g room last l w) (hl:l.length≤64):
  Calls Tryz.prog 197 #[.pointer (some ⟨g,0,none⟩),.int .i64 h] w fun e w'=>e=.returned (got l h)∧Below w.heap.size w w':=by
 have HT:=hid hT
 have hlli:(l.length:Int)≤64:=by omega
 clear hT
 cases hi:idx l h with
 |none=>
  have HG:Hid (got l h=.tuple #[.pointer none,.bool false]):=by show _=_;unfold got;rw[hi]
  rw[HG.out]
  have HI:=hid hi
  clear hi
  go_enter Tryz.func197,Tryz.ntmps197
  go_wp2_with fail
  refine(Dt B g room last l h _ HT.out hl).mono ?_
  rw[HI.out]
  rintro e w1 ⟨rfl,hb1⟩
  rw[show zA none= -1 from rfl]
  have HB:=hid hb1
  clear hb1
  go_wp2
  go_ret2
  exact⟨rfl,HB.out⟩
 |some k=>
  obtain⟨hk,e1,_⟩:=vH hi
  obtain⟨⟨hd,x⟩,hp⟩:∃p,p=l[k]:=⟨_,rfl⟩
  have HG:Hid (got l h=.tuple #[.pointer (some ⟨x,0,none⟩),.bool true]):=by show _=_;unfold got;rw[hi];simp only;rw[List.getElem?_eq_getElem hk,←hp];try rfl
  rw[HG.out]
  have HI:=hid hi
  have HP:=hid hp
  clear hi e1 hp
  go_enter Tryz.func197,Tryz.ntmps197
  go_wp2_with fail
  refine(Dt B g room last l h _ HT.out hl).mono ?_
  rw[HI.out]
  rintro e w1 ⟨rfl,hb1⟩
  rw[show zA (some k)=(k:Int)from rfl]
  have HB:=hid hb1
  obtain⟨v,hv,hown,hBg⟩:=HT.out.below hb1
  obtain⟨A,c,rfl,hnc,hcm,hcell⟩:=lY hown
  obtain⟨c0,c1,c2⟩:=cells3 hv
  obtain⟨b,rfl,hbl,k0,k1⟩:=hcell k hk
  rw[←HP.out]at k0 k1
  have k1':w1.cell? ⟨b,k*2+1,none⟩=some (.pointer (some ⟨x,0,none⟩)):=k1
  clear hb1 hv hown hcell k1
  go_wp2
  go_ret2
  exact⟨rfl,HB.out⟩
theorem new_any (n:Nat) (h1:1≤n) (h2:n≤64) (w:World):Calls Tryz.prog 191 #[.int .i64 (n:Int)] w fun e w'=>∃g,e=.returned (.tuple #[.pointer (some ⟨g,0,none⟩),.int .i64 0])∧Ny 240 248 (uw.nT) w.heap.size g n 0 [] w'∧Below w.heap.size w w':=by
 have q1:¬(n:Int)<1:=by omega
 have q2:¬(64:Int)<(n:Int):=by omega
 go_enter Tryz.func191,Tryz.ntmps191
 go_wp2
 go_ret2
 exact⟨_,rfl,⟨_,heap_alloc_new w _,World.ownsRow_nil _ _ _ _,Nat.le_refl _⟩,(Below.refl _ _).alloc (Nat.le_refl _) _⟩
end Go.Proofs.YtmpeaoacaecgpaaGreatDoor.TbB
namespace Go.Proofs.YtmpeaoacaecgpaaGreatDoor.TbC
open Go.RowKit Base Base2 Base3 Regs uw TbB
theorem info_h:(Tryz.prog.info? 2).map (fun i=>(i.zero,i.size,i.bytes))=some (some (.int .i64 0),1,8):=by kernel_rfl
def hs (l:List (Nat×Nat)):List Int:=l.map fun p=>(p.1:Int)
theorem Vo (l:List (Nat×Nat)):(hs l).length=l.length:=by simp[hs]
theorem hs_take (l:List (Nat×Nat)) (k:Nat) (h:k<l.length):gV .i64 (hs (l.take (k+1)))=gV .i64 (hs (l.take k))++[.int .i64 (l[k].1:Int)]:=by
 rw[List.take_succ_eq_append_getElem h]
 unfold hs gV
 rw[List.map_append,List.map_append]
 rfl
theorem aas (B g room last:Nat) (l:List (Nat×Nat)) (w:World) (hT:Ny 240 248 (uw.nT) B g room last l w) (hl:l.length≤64):
  Calls Tryz.prog 196 #[.pointer (some ⟨g,0,none⟩)] w fun e w'=>∃v,e=.returned v∧w'.ownsRow w.heap.size 2 1 v l.length (gV .i64 (hs l))∧Below w.heap.size w w':=by
 have hlt:=hT.lt
 obtain⟨i0,hi,hz0,hz1,hz2⟩:=info_parts info_h
 obtain⟨v,hv,hown,hBg⟩:=hT
 obtain⟨A,c,rfl,hnc,hcm,hcell⟩:=lY hown
 obtain⟨c0,c1,c2⟩:=cells3 hv
 have HC:=hid hcell
 have hlli:(l.length:Int)≤64:=by omega
 clear hcell hv hown
 go_enter Tryz.func196,Tryz.ntmps196
 go_wp2
 go_loopw [3,13] (fun vr vk wr=>∃k:Nat,k≤l.length∧vk=.int .i64 (k:Int)∧Hid (wr.ownsRow w.heap.size 2 1 vr k (gV .i64 (hs (l.take k))))∧Below w.heap.size w wr) (fun _ vk _=>l.length - (intOf vk).toNat)
 case atStart=>exact⟨0,by omega,rfl,World.ownsRow_nil _ _ _ _,Below.refl _ _⟩
 case round=>
  obtain⟨k,hk,rfl,HO,hbel⟩:=hrel
  by_cases hlk:k<l.length
  ·obtain⟨b,rfl,hbl,h0,h1⟩:=HC.out k hlk
   obtain⟨⟨hd,x⟩,hp⟩:∃p,p=l[k]:=⟨_,rfl⟩
   rw[←hp]at h0 h1
   have k0:=(hbel.cell (p:=⟨b,k*2,none⟩) hbl).trans h0
   have k1:wr.cell? ⟨b,k*2+1,none⟩=some (.pointer (some ⟨x,0,none⟩)):=(hbel.cell (p:=⟨b,k*2+1,none⟩) hbl).trans h1
   have HP:=hid hp
   clear hp h0 h1
   have jy:Hid ((wr.alloc (.cells #[.int .i64 (hd:Int),.pointer (some ⟨x,0,none⟩)] 248)).ownsRow w.heap.size 2 1 _ k (gV .i64 (hs (l.take k)))):=hid (HO.out.alloc _)
   have dZ:Below w.heap.size w (wr.alloc (.cells #[.int .i64 (hd:Int),.pointer (some ⟨x,0,none⟩)] 248)):=hbel.alloc hbel.size _
   go_wp2_with (at_builtin;refine aQ rfl _ _ 197 rfl w.heap.size 2 i0 (.int .i64 0) 8 Tryz.underlying197 hi hz0 hz1 hz2 rfl _ k _ rfl jy.out dZ dZ.size [.int .i64 (hd:Int)] 1 rfl (by rw[World.size_alloc];rfl) (by intro u hu;simp at hu;subst hu;rfl) (by unfold maxLen;omega) (by omega) ?_)
   intro v' w' hown' hbel'
   have iV:Hid (w'.ownsRow w.heap.size 2 1 v' (k+1) (gV .i64 (hs (l.take (k+1))))):=by
    show World.ownsRow _ _ _ _ _ _ _
    rw[hs_take l k hlk,←HP.out]
    exact hown'
   clear hown' jy dZ HO hbel
   go_wp2
   go_roundw
   case rel=>exact⟨k+1,by omega,by go_num,iV.out,hbel'⟩
   case measure=>simp[intOf];omega
  ·obtain rfl:k=l.length:=by omega
   rw[List.take_length]at HO
   go_wp2
   go_ret
   exact⟨_,rfl,HO.out,hbel⟩
end Go.Proofs.YtmpeaoacaecgpaaGreatDoor.TbC
namespace Go.Proofs.YtmpeaoacaecgpaaGreatDoor.xH
open Go.RowKit Base Base2 Base3 Regs uw
structure Bc (α:Type) where
 url:ByteArray
 s:ByteArray
 h:ByteArray
 p:Int
 n:Int
 x:α
section
variable {α:Type} (enc:α→Value)
def rw6 (e:Bc α):List Value:=[.string e.url,.string e.s,.string e.h,.int .i64 e.p,.int .i64 e.n,enc e.x]
def flat (l:List (Bc α)):List Value:=l.flatMap (rw6 enc)
end
def IsS (T E:TypeId) {α:Type} (enc:α→Value) (B g room:Nat) (l:List (Bc α)) (w:World):Prop:=∃v,w.heap[g]?=some (.cells #[.int .i64 (room:Int),v] T (0,0))∧w.ownsRow B E 6 v l.length (flat enc l)∧B≤g
section
variable {T E:TypeId} {α:Type} {enc:α→Value} {B g room:Nat} {l:List (Bc α)} {w w':World}
theorem IsS.lt (h:IsS T E enc B g room l w):g<w.heap.size:=by obtain⟨v,h,_⟩:=h;exact(Array.getElem?_eq_some_iff.1 h).1
theorem IsS.below (h:IsS T E enc B g room l w) (hb:Below w.heap.size w w'):IsS T E enc B g room l w':=by
 have hl:=h.lt
 obtain⟨v,h1,h2,h3⟩:=h
 exact⟨v,(hb.block g hl).trans h1,aP h2 hb,h3⟩
theorem IsS.kp {T' E':TypeId} (h:IsS T E enc B g room l w) (hk:Kp T' E' w w') (h1:T≠T') (h2:T≠E') (h3:E≠T') (h4:E≠E'):IsS T E enc B g room l w':=by
 obtain⟨v,a,b,c⟩:=h
 exact⟨v,hk.cells a h1 h2,hk.owns b h3 h4,c⟩
end
end Go.Proofs.YtmpeaoacaecgpaaGreatDoor.xH
namespace Go.Proofs.YtmpeaoacaecgpaaGreatDoor.dI
open Go.RowKit Base
def letter (c:Int):Bool:=decide (65≤c∧c≤90∨97≤c∧c≤122)
def digit (c:Int):Bool:=decide (48≤c∧c≤57)
def hex (c:Int):Int:=if 48≤c∧c≤57 then c - 48 else if 97≤c∧c≤102 then c - 87 else if 65≤c∧c≤70 then c - 55 else -1
theorem dN (c:Int) (w:World):Calls Tryz.prog 215 #[.int .u8 c] w fun e w'=>e=.returned (.bool (letter c))∧w=w':=by
 go_enter Tryz.func215,Tryz.ntmps215
 go_wp2
 all_goals
  go_ret
  exact⟨ak (by unfold letter;rw[Bool.eq_iff_iff];simp;omega),rfl⟩
theorem fE (c:Int) (w:World):Calls Tryz.prog 216 #[.int .u8 c] w fun e w'=>e=.returned (.bool (digit c))∧w=w':=by
 go_enter Tryz.func216,Tryz.ntmps216
 go_wp2
 all_goals
  go_ret
  exact⟨ak (by unfold digit;rw[Bool.eq_iff_iff];simp;omega),rfl⟩
theorem dV (c:Int) (w:World) (h0:0≤c) (h1:c≤255):Calls Tryz.prog 259 #[.int .u8 c] w fun e w'=>e=.returned (.int .i64 (hex c))∧w=w':=by
 go_enter Tryz.func259,Tryz.ntmps259
 go_wp2
 all_goals
  go_ret
  exact⟨iw (by unfold hex;(repeat' split)<;>omega),rfl⟩
end Go.Proofs.YtmpeaoacaecgpaaGreatDoor.dI
