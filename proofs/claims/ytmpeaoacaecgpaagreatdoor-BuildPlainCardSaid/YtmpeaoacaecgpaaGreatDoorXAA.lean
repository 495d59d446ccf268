/- Texts that belong together: Base, dI, pU, Base2, WZ, cO, jK, Gn, Zz, ajm, qh, UtfD. -/
import Derived.Test.YtmpeaoacaecgpaaGreatDoorChecked
import Derived.WalkKit
import Derived.WalkSpells
import Derived.WalkLawsBesides
import Derived.Outline
import Derived.Laws.IdiomStrings
import Derived.Deep.Draws
import Derived.Deep.AppendLies
import Derived.Deep.RegionHeld3
import Derived.Deep.DrawnRows
import Derived.Lib.IndexLaws
import Derived.Lib.SlTrimSet
import Derived.Test.YtmpeaoacaecgpaaGreatDoorShelf
import Derived.Deep.QuietTactic
import Derived.BigQuiet
set_option linter.unusedSimpArgs false
set_option linter.unusedVariables false
set_option maxRecDepth 100000
set_option maxHeartbeats 64000000
namespace Go.Proofs.YtmpeaoacaecgpaaGreatDoor.Base
open Go.RowKit
theorem ak {a b:Bool} (h:a=b):Ending.returned (.bool a)=.returned (.bool b):=by rw[h]
theorem iw {k:IntKind} {a b:Int} (h:a=b):Ending.returned (.int k a)=.returned (.int k b):=by rw[h]
theorem int_eq {k:IntKind} {a b:Int} (h:a=b):Value.int k a=.int k b:=by rw[h]
theorem iO {a b:Bool} (h:a=b):Value.bool a=.bool b:=by rw[h]
theorem vS {a b a' b':Value} (h1:a=a') (h2:b=b'):Ending.returned (.tuple #[a,b])=.returned (.tuple #[a',b']):=by rw[h1,h2]
theorem ret3 {a b c a' b' c':Value} (h1:a=a') (h2:b=b') (h3:c=c'):Ending.returned (.tuple #[a,b,c])=.returned (.tuple #[a',b',c']):=by rw[h1,h2,h3]
theorem Xd (g j:Nat):(⟨g,0,none⟩:Addr).add j=⟨g,j,none⟩:=by unfold Addr.add;split<;>simp_all
theorem below_drewN {B:Nat} {a w:World} (h:Below B a w) (n:Nat):Below B a (w.drewN n):=⟨h.os,h.tape,h.output,h.size,h.block⟩
theorem PE (c:UInt8):bits .and .u8 (c.toNat:Int) 15=(c.toNat:Int)%16:=by
 have H:∀n:Fin 256,bits .and .u8 (n.val:Int) 15=(n.val:Int)%16:=by decide+kernel
 exact H ⟨c.toNat,c.toNat_lt⟩
theorem hid {p:Prop} (h:p):Hid p:=h
def strOf (l:List UInt8):ByteArray:=⟨l.toArray⟩
theorem aG (s:ByteArray):strOf s.data.toList=s:=by cases s;rfl
theorem size_strOf (l:List UInt8):(strOf l).size=l.length:=by simp[strOf,ByteArray.size]
def oK (w:World) (g:Nat) (t:TypeId) (L:List UInt8):Prop:=
 ∃C m,w.heap[g]?=some (.cells C t (m,m+1))∧L.length≤m∧m≤C.size∧∀j (h:j<L.length),C[j]?=some (.int .u8 (L[j].toNat:Int))
theorem oK.cell {w:World} {g:Nat} {t:TypeId} {L:List UInt8} (h:oK w g t L) (j:Nat) (hj:j<L.length):w.cell? ⟨g,j,none⟩=some (.int .u8 (L[j].toNat:Int)):=by
 obtain⟨C,m,hh,hm,hC,hc⟩:=h
 unfold World.cell?
 rw[hh]
 simpa using hc j hj
theorem oK.frozen {w:World} {g:Nat} {t:TypeId} {L:List UInt8} (h:oK w g t L) (j:Nat) (hj:j<L.length):w.frozen? ⟨g,j,none⟩=false:=by
 obtain⟨C,m,hh,hm,hC,hc⟩:=h
 unfold World.frozen?
 rw[hh]
 simp
 omega
theorem oK.set {w:World} {g:Nat} {t:TypeId} {L:List UInt8} (h:oK w g t L) (j:Nat) (c:UInt8):oK (w.setCell ⟨g,j,none⟩ (.int .u8 (c.toNat:Int))) g t (L.set j c):=by
 obtain⟨C,m,hh,hm,hC,hc⟩:=h
 refine⟨C.setIfInBounds j (.int .u8 (c.toNat:Int)),m,?_,by simpa using hm,by simpa using hC,fun i hi=>?_⟩
 ·simp[World.setCell,Array.getElem?_modify,hh]
 have hi':i<L.length:=by simpa using hi
 by_cases e:j=i
 ·subst e
  rw[Array.getElem?_setIfInBounds_self_of_lt (by omega)]
  simp
 rw[Array.getElem?_setIfInBounds_ne e,hc i hi']
 simp[List.getElem_set,e]
theorem oK.made (w:World) (s:ByteArray) (t:TypeId) (n:Nat) (hn:s.size≤n):oK (w.alloc (.cells (bytesRow s n) t ((bytesRow s n).size,(bytesRow s n).size+1))) w.heap.size t s.data.toList:=by
 have hsz:s.data.size=s.size:=rfl
 refine⟨bytesRow s n,(bytesRow s n).size,heap_alloc_new w _,?_,Nat.le_refl _,fun j hj=>?_⟩
 ·simp[bytesRow]
 rw[bytesRow_at s n j (by simpa using hj)]
 simp
def aY (w:World) (A:Option Addr) (n:Nat) (xs:List Value):Prop:=
 xs.length=n∧∀j (h:j<xs.length),∃b off,A=some ⟨b,off,none⟩∧b<w.heap.size∧w.cell? ⟨b,off+j,none⟩=some xs[j]
def ah (L:List UInt8):List Value:=L.map fun c=>.int .u8 (c.toNat:Int)
def gV (k:IntKind) (l:List Int):List Value:=l.map (Value.int k)
theorem aI (L:List UInt8):(ah L).length=L.length:=by simp[ah]
theorem jA (k:IntKind) (l:List Int):(gV k l).length=l.length:=by simp[gV]
theorem aS (a b:List UInt8):ah (a++b)=ah a++ah b:=by simp[ah]
theorem jl (a:List UInt8) (k:Nat):ah (a.drop k)=(ah a).drop k:=by simp[ah]
theorem lC (a:List UInt8) (k:Nat):ah (a.take k)=(ah a).take k:=by simp[ah]
theorem iE (k:IntKind) (a b:List Int):gV k (a++b)=gV k a++gV k b:=by simp[gV]
theorem nR (L:List UInt8):∀u ∈ ah L,u.oneCell'=true:=by
 intro u hu
 simp only[ah,List.mem_map]at hu
 obtain⟨c,_,rfl⟩:=hu
 rfl
theorem iR:(Tryz.prog.info? 5).map (fun i=>(i.zero,i.size,i.bytes))=some (some (.int .u8 0),1,1):=by kernel_rfl
section
variable {w w':World} {A:Option Addr} {n:Nat} {xs:List Value}
theorem aY.nil (A:Option Addr):aY w A 0 []:=⟨rfl,fun j h=>absurd h (by simp)⟩
theorem aY.spot (h:aY w A n xs) (hn:0<n):∃b off,A=some ⟨b,off,none⟩∧b<w.heap.size∧∀j (h:j<xs.length),w.cell? ⟨b,off+j,none⟩=some xs[j]:=by
 obtain⟨b,off,rfl,hb,_⟩:=h.2 0 (by rw[h.1];exact hn)
 refine⟨b,off,rfl,hb,fun j hj=>?_⟩
 obtain⟨b',off',e,_,hc⟩:=h.2 j hj
 injection e with e
 injection e with e1 e2
 subst e1 e2
 exact hc
theorem aY.jF {b off:Nat} (hl:xs.length=n) (hb:b<w.heap.size) (h:∀j (h:j<xs.length),w.cell? ⟨b,off+j,none⟩=some xs[j]):aY w (some ⟨b,off,none⟩) n xs:=
 ⟨hl,fun j hj=>⟨b,off,rfl,hb,h j hj⟩⟩
theorem aY.below (h:aY w A n xs) (hb:Below w.heap.size w w'):aY w' A n xs:=
 ⟨h.1,fun j hj=>by
  obtain⟨b,off,rfl,hlt,hc⟩:=h.2 j hj
  exact⟨b,off,rfl,Nat.lt_of_lt_of_le hlt hb.size,(hb.cell (p:=⟨b,off+j,none⟩) hlt).trans hc⟩⟩
theorem aY.cut {b off:Nat} (h:aY w (some ⟨b,off,none⟩) n xs) (k:Nat) (hk:k≤n):aY w (some ⟨b,off+k,none⟩) (n - k) (xs.drop k):=
 ⟨by rw[List.length_drop,h.1],fun j hj=>by
  have hj':k+j<xs.length:=by rw[List.length_drop]at hj;omega
  obtain⟨b',off',e,hlt,hc⟩:=h.2 (k+j) hj'
  injection e with e
  injection e with e1 e2
  subst e1 e2
  refine⟨b,off+k,rfl,hlt,?_⟩
  rw[Nat.add_assoc,hc,List.getElem_drop]⟩
theorem aY.upto {b off:Nat} (h:aY w (some ⟨b,off,none⟩) n xs) (k:Nat) (hk:k≤n):aY w (some ⟨b,off,none⟩) k (xs.take k):=
 ⟨by rw[List.length_take,h.1];omega,fun j hj=>by
  have hj':j<xs.length:=by rw[List.length_take]at hj;omega
  obtain⟨b',off',e,hlt,hc⟩:=h.2 j hj'
  refine⟨b',off',e,hlt,?_⟩
  rw[hc,List.getElem_take]⟩
theorem aY.byte {L:List UInt8} {b off:Nat} (h:aY w (some ⟨b,off,none⟩) n (ah L)) (j:Nat) (hj:j<L.length):w.cell? ⟨b,off+j,none⟩=some (.int .u8 (L[j].toNat:Int)):=by
 obtain⟨b',off',e,_,hc⟩:=h.2 j (by rw[aI];exact hj)
 injection e with e
 injection e with e1 e2
 subst e1 e2
 rw[hc]
 simp[ah]
theorem aY.int {k:IntKind} {l:List Int} {b off:Nat} (h:aY w (some ⟨b,off,none⟩) n (gV k l)) (j:Nat) (hj:j<l.length):w.cell? ⟨b,off+j,none⟩=some (.int k l[j]):=by
 obtain⟨b',off',e,_,hc⟩:=h.2 j (by rw[jA];exact hj)
 injection e with e
 injection e with e1 e2
 subst e1 e2
 rw[hc]
 simp[gV]
theorem aJ {base:Nat} {e:TypeId} {v:Value} (h:w.ownsRow base e 1 v n xs):∃A c,v=.slice A n c∧n≤c∧c≤maxLen∧aY w A n xs:=by
 obtain⟨hl,h⟩:=h
 rw[Nat.mul_one]at hl
 rcases h with⟨rfl,rfl⟩|⟨g,cap,cur,rfl,hb,hh,hc,hm,hs,ht⟩
 ·exact⟨none,0,rfl,Nat.le_refl _,Nat.zero_le _,hl,fun j hj=>absurd hj (by omega)⟩
 refine⟨some ⟨g,0,none⟩,cap,rfl,hc,hm,aY.jF hl (Array.getElem?_eq_some_iff.1 hh).1 fun j hj=>?_⟩
 rw[Nat.zero_add,cell_of_row w g j cur e (0,0) hh]
 simp only[Nat.mul_one]at ht
 have:(cur.toList.take n)[j]?=some xs[j]:=by rw[ht];exact List.getElem?_eq_getElem hj
 rw[List.getElem?_take,if_pos (by omega)]at this
 simpa using this
theorem aP {base:Nat} {e:TypeId} {size:Nat} {v:Value} (h:w.ownsRow base e size v n xs) (hb:Below w.heap.size w w'):w'.ownsRow base e size v n xs:=by
 refine⟨h.1,?_⟩
 rcases h.2 with hn|⟨g,cap,cur,rfl,hg,hh,rest⟩
 ·exact .inl hn
 exact .inr ⟨g,cap,cur,rfl,hg,(hb.block g (Array.getElem?_eq_some_iff.1 hh).1).trans hh,rest⟩
theorem ay {base base':Nat} {e:TypeId} {size:Nat} {v:Value} (h:w.ownsRow base e size v n xs) (hb:base'≤base):w.ownsRow base' e size v n xs:=by
 refine⟨h.1,?_⟩
 rcases h.2 with hn|⟨g,cap,cur,rfl,hg,rest⟩
 ·exact .inl hn
 exact .inr ⟨g,cap,cur,rfl,Nat.le_trans hb hg,rest⟩
theorem aF {P:Program} (src dst e:TypeId) (hs:P.underlying src=some (.slice e)) (he:P.underlying e=some (.int .u8)) (hd:P.underlying dst=some .string) (L:List UInt8) (c:Nat) (h:aY w A n (ah L)):
  (convert src dst (.slice A n c)).run P w=.ok (.string (strOf L)) w:=by
 have hl:L.length=n:=by rw[←aI];exact h.1
 cases A with
 | none=>
  have h0:n=0:=by
   rcases Nat.eq_zero_or_pos n with h0|h0
   ·exact h0
   ·obtain⟨_,_,e,_⟩:=h.spot h0
    cases e
  subst h0
  obtain rfl:L=[]:=List.eq_nil_of_length_eq_zero hl
  rw[run_convert_bytes_string w src dst e none 0 c hs he hd]
  rfl
 | some a=>
  subst hl
  exact run_convert_bytes_back w src dst e a c L hs he hd (fun j hj=>by
   obtain⟨b,off,e,_,hc⟩:=h.2 j (by rw[aI];exact hj)
   injection e with e
   subst e
   have ha:(⟨b,off,none⟩:Addr).add j=⟨b,off+j,none⟩:=by
    unfold Addr.add
    split<;>simp_all
   rw[ha,hc]
   simp[ah])
end
section
variable {P:Program} {W w0:World} {ops:Array Oper} {rest:List Oper} {o:Oper} {a:Act} {Q:Exit→Act→World→Prop}
theorem aQ (hgd:o.guard=none) (s x:Operand) (t:TypeId) (ho:o.op=.call {callee:=.builtin .append,args:=#[s,x],argTypes:=#[t,t]})
  (B:Nat) (e:TypeId) (i:TypeInfo) (z:Value) (by_:Nat) (ht:P.underlying t=some (.slice e)) (hi:P.info? e=some i) (hz:i.zero=some z) (hsize:i.size=1) (hby:i.bytes=by_) (hzs:z.cells.size=1)
  (v:Value) (n:Nat) (xs:List Value) (hs:a.eval s=v) (hown:W.ownsRow B e 1 v n xs) (hbel:Below B w0 W) (hB:B≤W.heap.size)
  (news:List Value) (m:Nat) (hm:news.length=m) (hx:a.eval x=.slice (some ⟨W.heap.size,0,none⟩) m m) (h1:∀u ∈ news,u.oneCell'=true)
  (h63:n+m≤maxLen) (hbytes:(n+m)*by_≤140737488355328)
  (h:∀v' w',w'.ownsRow B e 1 v' (n+m) (xs++news)→Below B w0 w'→wpList P ops Q rest (a.put o.dst v') w'):
  wpList P ops Q (o::rest) a (W.alloc (.cells news.toArray e)):=by
 refine wpList_append_own _ hgd s x t ho B e i z 1 by_ ht hi hz hsize hby hzs (by decide) v n xs hs (hown.alloc _) ⟨W.heap.size,0,none⟩ m m news hx (by omega) (fun j u hj=>?_) h1 h63 hbytes (by simp;omega) (fun v' w' h2 h3 _=>h v' w' h2 ?_)
 ·rw[Xd,World.cell?_alloc_mark]
  simpa using hj
 ·exact(hbel.alloc hB _).grown h3 (by simp;omega) (fun g hg=>(hown.lt g hg).1)
theorem RS {K:Act→World→Prop} {E:Prop} (hgd:o.guard=none) (s x:Operand) (t:TypeId) (ho:o.op=.call {callee:=.builtin .append,args:=#[s,x],argTypes:=#[t,t]})
  (B:Nat) (e:TypeId) (i:TypeInfo) (z:Value) (by_:Nat) (ht:P.underlying t=some (.slice e)) (hi:P.info? e=some i) (hz:i.zero=some z) (hsize:i.size=1) (hby:i.bytes=by_) (hzs:z.cells.size=1)
  (v:Value) (n:Nat) (xs:List Value) (hs:a.eval s=v) (hown:W.ownsRow B e 1 v n xs) (hbel:Below B w0 W) (hB:B≤W.heap.size)
  (news:List Value) (m:Nat) (hm:news.length=m) (hm0:0<m) (hx:a.eval x=.slice (some ⟨W.heap.size,0,none⟩) m m) (h1:∀u ∈ news,u.oneCell'=true)
  (h63:n+m≤maxLen) (hbytes:(n+m)*by_≤140737488355328) {wq:World} (hwq:Below B (W.alloc (.cells news.toArray e)) wq∧(∀b:Nat,wq.heap[b]?=(W.alloc (.cells news.toArray e)).heap[b]?)∧wq.heap.size=W.heap.size+1)
  (h:∀v' w',w'.ownsRow B e 1 v' (n+m) (xs++news)→Below B w0 w'→K (a.put o.dst v') w'):
  if Region.wanted o (yielded ops a.tmps)=true then Oper.wp P o a wq K Q else E:=by
 have hgr:Below (W.alloc (.cells news.toArray e)).heap.size (W.alloc (.cells news.toArray e)) wq:=⟨hwq.1.os,hwq.1.tape,hwq.1.output,hwq.1.size,fun k _=>hwq.2.1 k⟩
 have hown':wq.ownsRow B e 1 v n xs:=aP (hown.alloc _) hgr
 refine step_append_lies (w:=wq) hgd s x t ho B e i z 1 by_ ht hi hz hsize hby hzs (by decide) v n xs hs hown' ⟨W.heap.size,0,none⟩ m m news hx (by omega) (fun j u hj=>?_) h1 hm0 h63 hbytes (by omega) _ rfl (fun g cap w' h2 h3 _ _=>h _ w' h2 ?_)
 ·rw[Xd,World.cell?_of_block (w:=W.alloc (.cells news.toArray e)) (hwq.2.1 _),World.cell?_alloc_mark]
  simpa using hj
 ·exact((hbel.alloc hB _).trans hwq.1).grown h3 (by omega) (fun g hg=>(hown.lt g hg).1)
end
end Go.Proofs.YtmpeaoacaecgpaaGreatDoor.Base
namespace Go.Proofs.YtmpeaoacaecgpaaGreatDoor.dI
open Go.RowKit Base
def letter (c:Int):Bool:=decide (65≤c∧c≤90∨97≤c∧c≤122)
def digit (c:Int):Bool:=decide (48≤c∧c≤57)
def hex (c:Int):Int:=if 48≤c∧c≤57 then c - 48 else if 97≤c∧c≤102 then c - 87 else if 65≤c∧c≤70 then c - 55 else -1
theorem dN (c:Int) (w:World):Calls Tryz.prog 215 #[.int .u8 c] w fun e w'=>e=.returned (.bool (letter c))∧w=w':=by
 go_enter Tryz.func215,Tryz.ntmps215
 go_wp2
 all_goals
  go_ret
  exact⟨ak (by unfold letter;rw[Bool.eq_iff_iff];simp;omega),rfl⟩
theorem fE (c:Int) (w:World):Calls Tryz.prog 216 #[.int .u8 c] w fun e w'=>e=.returned (.bool (digit c))∧w=w':=by
 go_enter Tryz.func216,Tryz.ntmps216
 go_wp2
 all_goals
  go_ret
  exact⟨ak (by unfold digit;rw[Bool.eq_iff_iff];simp;omega),rfl⟩
theorem dV (c:Int) (w:World) (h0:0≤c) (h1:c≤255):Calls Tryz.prog 259 #[.int .u8 c] w fun e w'=>e=.returned (.int .i64 (hex c))∧w=w':=by
 go_enter Tryz.func259,Tryz.ntmps259
 go_wp2
 all_goals
  go_ret
  exact⟨iw (by unfold hex;(repeat' split)<;>omega),rfl⟩
end Go.Proofs.YtmpeaoacaecgpaaGreatDoor.dI
namespace Go.Proofs.YtmpeaoacaecgpaaGreatDoor.pU
open Go.RowKit Base dI
def marks:List UInt8:=[33,35,36,37,38,39,42,43,45,46,94,95,96,124,126]
def FX (c:UInt8):Bool:=letter c.toNat||digit c.toNat||marks.contains c
def dP (L:List UInt8):Bool:=L.all FX&& !L.isEmpty
theorem EM (l:List UInt8) (c:UInt8):decide (Lib.indexByte l c<0)= !l.contains c:=by
 have hge:=Lib.indexByte_ge l c
 cases h:l.contains c
 ·have:¬∃o:Nat,Lib.indexByte l c=o:=by
   rintro⟨o,e⟩
   have:=(Lib.indexByte_some e).1
   have hm:=List.mem_of_getElem? this
   rw[List.contains_iff_mem.2 hm]at h
   cases h
  have hn:Lib.indexByte l c<0:=by
   by_cases h0:Lib.indexByte l c<0
   ·exact h0
   exact absurd ⟨(Lib.indexByte l c).toNat,by omega⟩ this
  simp[hn]
 have hm:=List.contains_iff_mem.1 h
 obtain⟨k,hk⟩:=List.mem_iff_getElem?.1 hm
 have:Lib.indexByte l c≠-1:=fun e=>Lib.indexByte_none e k hk
 simp
 omega
def qd:List UInt8→List UInt8×Nat
 |[]=>([],0)
 |[c]=>if c=34 then([],1)else([c],1)
 |c::d::t=>if c=34 then([],1)else if c=92 then(d::(qd t).1,(qd t).2+2)else(c::(qd (d::t)).1,(qd (d::t)).2+1)
theorem aen (t:List UInt8):qd (34::t)=([],1):=by cases t<;>simp[qd]
theorem aeo (d:UInt8) (t:List UInt8):qd (92::d::t)=(d::(qd t).1,(qd t).2+2):=by simp[qd]
theorem agc:qd [92]=([92],1):=by simp[qd]
theorem Rk (c:UInt8) (t:List UInt8) (h1:c≠34) (h2:c≠92):qd (c::t)=(c::(qd t).1,(qd t).2+1):=by
 cases t<;>simp[qd,h1,h2]
def jT:List UInt8→List UInt8×Nat
 |[]=>([],0)
 |c::t=>if c=34 then((qd t).1,(qd t).2+1)else([],0)
theorem Yh:∀L:List UInt8,(qd L).1.length≤L.length∧(qd L).2≤L.length
 |[]=>by simp[qd]
 |[c]=>by unfold qd;split<;>simp
 | c :: d :: t => by
  have h1:=Yh t
  have h2:=Yh (d::t)
  unfold qd
  split
  ·simp
  ·split
   ·simp
    omega
   ·simp at h2⊢
    omega
def qe (c:UInt8):List UInt8:=if c=34∨c=92 then[92,c]else[c]
def qt (L:List UInt8):List UInt8:=L.flatMap qe
theorem agd (L:List UInt8) (c:UInt8):qt (L++[c])=qt L++qe c:=by simp[qt]
theorem qt_len (L:List UInt8):(qt L).length≤2*L.length:=by
 induction L with
 |nil=>simp[qt]
 |cons c l ih=>
  have:(qe c).length≤2:=by unfold qe;split<;>simp
  simp only[qt,List.flatMap_cons,List.length_append,List.length_cons]at ih⊢
  omega
theorem qd_qt (T:List UInt8):∀L:List UInt8,qd (qt L++34::T)=(L,(qt L).length+1)
 |[]=>by simp[qt,aen]
 |c::l=>by
  have ih:=qd_qt T l
  have e:qt (c::l)=qe c++qt l:=by simp[qt]
  rw[e]
  unfold qe
  split
  ·rename_i h
   show qd (92::c::(qt l++34::T))=_
   rw[aeo,ih]
   refine Prod.ext rfl ?_
   simp
  ·rename_i h
   show qd (c::(qt l++34::T))=_
   rw[Rk c _ (fun h'=>h (.inl h')) (fun h'=>h (.inr h')),ih]
   refine Prod.ext rfl ?_
   simp
def qq (L:List UInt8):List UInt8:=34::(qt L++[34])
theorem qval_qq (L T:List UInt8):jT (qq L++T)=(L,(qq L).length):=by
 have e:qq L++T=34::(qt L++34::T):=by simp[qq]
 rw[e,jT,if_pos rfl,qd_qt]
 refine Prod.ext rfl ?_
 simp[qq]
theorem ane (L:List UInt8):(qq L).length≤2*L.length+2:=by
 have:=qt_len L
 simp[qq]
 omega
def blanks:List UInt8:=[9,10,13,32]
def tl (L:List UInt8):List UInt8:=Lib.trimLeftS L blanks
def tr (L:List UInt8):List UInt8:=Lib.trimRightS L blanks
def ru (L:List UInt8):List UInt8:=Lib.trimS L blanks
theorem qU (p:UInt8→Bool) (a b:List UInt8) (h:∀x ∈ a,p x=true):(a++b).dropWhile p=b.dropWhile p:=by
 induction a with
 |nil=>rfl
 |cons x a ih=>
  rw[List.cons_append,List.dropWhile_cons,if_pos (h x (by simp))]
  exact ih fun y hy=>h y (by simp[hy])
theorem alf (p:UInt8→Bool):∀L:List UInt8,L.dropWhile p=[]→∀y ∈ L,p y=true
 |[],_,y,hy=>by cases hy
 |x::l,h,y,hy=>by
  rw[List.dropWhile_cons]at h
  split at h
  ·rename_i hx
   rcases List.mem_cons.1 hy with rfl|hy
   ·exact hx
   ·exact alf p l h y hy
  ·cases h
theorem alg (p:UInt8→Bool) (L:List UInt8):(L.dropWhile p).reverse.dropWhile p=((L.reverse.dropWhile p).reverse.dropWhile p).reverse:=by
 induction L with
 |nil=>rfl
 | cons x l ih=>
  by_cases hx:p x=true
  ·rw [List.dropWhile_cons, if_pos hx, ih, List.reverse_cons]
   by_cases ha:∀y ∈ l,p y=true
   ·have e1:l.reverse.dropWhile p=[]:=by
     have:=qU p l.reverse [] (fun y hy=>ha y (by simpa using hy))
     simpa using this
    have e2:(l.reverse++[x]).dropWhile p=[]:=by
     rw[qU p l.reverse [x] (fun y hy=>ha y (by simpa using hy)),List.dropWhile_cons,if_pos hx]
     rfl
    rw[e1,e2]
   have e3:(l.reverse++[x]).dropWhile p=l.reverse.dropWhile p++[x]:=by
    rw[List.dropWhile_append,if_neg]
    intro h
    refine ha fun y hy=>?_
    have h':l.reverse.dropWhile p=[]:=by simpa using h
    exact alf p _ h' y (by simpa using hy)
   rw[e3,List.reverse_append,List.reverse_singleton,List.singleton_append,List.dropWhile_cons,if_pos hx]
  rw[List.dropWhile_cons,if_neg hx,List.reverse_cons]
  have e3:(l.reverse++[x]).dropWhile p=l.reverse.dropWhile p++[x]:=by
   rw[List.dropWhile_append]
   split
   ·rename_i h
    have h':l.reverse.dropWhile p=[]:=by simpa using h
    rw[h',List.dropWhile_cons,if_neg hx]
    rfl
   rfl
  rw[e3,List.reverse_append,List.reverse_singleton,List.singleton_append,List.dropWhile_cons,if_neg hx,List.reverse_cons,List.reverse_reverse]
theorem xw (L:List UInt8):ru L=tl (tr L):=rfl
theorem Hl (L:List UInt8):(tl L).length≤L.length:=by
 unfold tl Lib.trimLeftS
 exact(List.dropWhile_sublist _).length_le
theorem Sl (L:List UInt8):(tr L).length≤L.length:=by
 unfold tr Lib.trimRightS
 rw[List.length_reverse]
 have:=(List.dropWhile_sublist (fun x=>blanks.contains x) (l:=L.reverse)).length_le
 simpa using this
theorem agx (L:List UInt8):(ru L).length≤L.length:=Nat.le_trans (Hl _) (Sl _)
end Go.Proofs.YtmpeaoacaecgpaaGreatDoor.pU
namespace Go.Proofs.YtmpeaoacaecgpaaGreatDoor.Base2
open Go.RowKit Base
theorem qF (w:World) (L:List UInt8) (t:TypeId) (mk:Nat×Nat):aY (w.alloc (.cells (ah L).toArray t mk)) (some ⟨w.heap.size,0,none⟩) L.length (ah L):=
 aY.jF (aI L) (by simp) (fun j hj=>by
  rw[Nat.zero_add,World.cell?_alloc_mark]
  simp)
theorem fV (s:ByteArray) (cap:Nat) (w:World) (t:TypeId):aY (w.drew.alloc (.cells (bytesRow s cap) t ((bytesRow s cap).size,(bytesRow s cap).size+1))) (some ⟨w.heap.size,0,none⟩) s.size (ah s.data.toList):=
 aY.jF (by rw[aI];exact Array.length_toList) (by simp) (fun j hj=>by
  have hj':j<s.data.size:=by rw[aI,Array.length_toList]at hj;exact hj
  rw[Nat.zero_add]
  have e:w.heap.size=w.drew.heap.size:=rfl
  rw[e,World.cell?_alloc_mark,bytesRow_at s cap j hj']
  simp[ah])
theorem str_add {P:Program} (X Y:List UInt8) (w:World) (h:X.length+Y.length≤9223372036854775807):(Op.stringOp .add (strOf X) (strOf Y)).run P w=.ok (.string (strOf (X++Y))) w:=by
 rw[run_string_add_sum w _ _ (by rw[size_strOf,size_strOf];exact h)]
 congr 2
theorem dL {P:Program} (a b:ByteArray) (w:World) (h:a.size+b.size≤9223372036854775807):(Op.stringOp .add a b).run P w=.ok (.string (strOf (a.data.toList++b.data.toList))) w:=by
 rw[run_string_add_sum w _ _ h]
 congr 3
theorem bel {w0 w w':World} (h:Below w0.heap.size w0 w) (hb:Below w.heap.size w w'):Below w0.heap.size w0 w':=h.trans (hb.mono h.size)
theorem uT {w:World} {A:Option Addr} {n:Nat} {xs:List Value} (h:aY w A n xs):aY w.drew A n xs:=h
theorem CY {w0 w w':World} (h:Below w0.heap.size w0 w) (hb:Below w.drew.heap.size w.drew w'):Below w0.heap.size w0 w':=h.drew.trans (hb.mono h.size)
end Go.Proofs.YtmpeaoacaecgpaaGreatDoor.Base2
namespace Go.Proofs.YtmpeaoacaecgpaaGreatDoor.WZ
open Go.RowKit Base Base2 pU
theorem drop_at (s:ByteArray) (k:Nat) (h:k<s.size):s.data.toList.drop k=s[k]::s.data.toList.drop (k+1):=by
 have h':k<s.data.toList.length:=by rw[Array.length_toList];exact h
 rw[List.drop_eq_getElem_cons h']
 rfl
theorem empty_of (s:ByteArray) (h:s.size=0):s=strOf []:=by
 have:s.data.toList=[]:=List.eq_nil_of_length_eq_zero (by rw[Array.length_toList];exact h)
 rw[←aG s,this]
theorem toList_eq (s:ByteArray) (h:s.size=0):s.toList=[]:=by
 rw[empty_of s h,strOf,ByteArray.toList_mk]
theorem l9 (s:ByteArray) (h:0<s.size):s.toList.isEmpty=false:=by
 rw[Lib.toList_data]
 cases e:s.data.toList with
 |nil=>have:s.data.toList.length=s.size:=Array.length_toList;rw[e]at this;simp at this;omega
 |cons _ _=>rfl
theorem lQ (s:ByteArray) (h:0<s.size):(s.toList==[])=false:=by
 have:=l9 s h
 cases e:s.toList with
 |nil=>rw[e]at this;cases this
 |cons _ _=>rfl
theorem ne34 (c:UInt8) (h:¬(c.toNat:Int)=34):c≠34:=fun e=>h (by rw[e];rfl)
theorem ne92 (c:UInt8) (h:¬(c.toNat:Int)=92):c≠92:=fun e=>h (by rw[e];rfl)
theorem Dl (c d:UInt8) (h:(c.toNat:Int)=(d.toNat:Int)):c=d:=UInt8.toNat_inj.1 (by omega)
theorem aer (s:ByteArray) (w:World) (hs:s.size≤1073741824):
  Calls Tryz.prog 359 #[.string s] w fun e w'=>e=.returned (.tuple #[.string (strOf (jT s.data.toList).1),.int .i64 (((jT s.data.toList).2:Nat):Int)])∧Below w.heap.size w w':=by
 have hl:s.data.toList.length=s.size:=Array.length_toList
 have HL:=hid hl
 clear hl
 obtain⟨i0,hi,hz0,hz1,hz2⟩:=info_parts iR
 rcases Nat.eq_zero_or_pos s.size with h0|h0
 ·have HE:Hid (jT s.data.toList=([],0)):=by rw[empty_of s h0];exact rfl
  have e0:=toList_eq s h0
  clear HL h0 hs
  go_enter Tryz.func359,Tryz.ntmps359
  go_wp2
  go_ret2
  rw[HE.out]
  exact⟨rfl,Below.refl _ _⟩
 ·have e0 := l9 s h0
  have e0':=lQ s h0
  obtain⟨c,hc⟩:∃c,s[0]=c:=⟨_,rfl⟩
  have HD0:Hid (s.data.toList=c::s.data.toList.drop 1):=by
   have:=drop_at s 0 h0
   rw[hc]at this
   exact this
  by_cases IL:(c.toNat:Int)=34
  ·have e1:((c.toNat:Int) !=34)=false:=by simp[IL]
   have HQ:Hid (jT s.data.toList=((qd (s.data.toList.drop 1)).1,(qd (s.data.toList.drop 1)).2+1)):=by
    show _=_
    rw[HD0.out,jT,if_pos (Dl c 34 IL)]
    rfl
   clear HD0 IL
   go_enter Tryz.func359,Tryz.ntmps359
   go_wp2
   go_loopw [4,5] (fun v vk wr=>∃(j:Nat) (X:List UInt8),1≤j∧j≤s.size∧X.length≤j∧vk=.int .i64 j∧wr.ownsRow w.heap.size 5 1 v X.length (ah X)∧Hid (qd (s.data.toList.drop 1)=(X++(qd (s.data.toList.drop j)).1,j - 1+(qd (s.data.toList.drop j)).2))∧Below w.heap.size w wr) (fun _ vk _=>s.size - (intOf vk).toNat)
   case atStart=>exact⟨1,[],Nat.le_refl _,h0,Nat.zero_le _,rfl,World.ownsRow_nil _ _ _ _,by show _=_;simp,Below.refl _ _⟩
   case round=>
    clear e1 hc e0 e0'
    obtain⟨j,X,hj1,hj,hX,rfl,hown,HQQ,hbel⟩:=hrel
    by_cases hlt:j<s.size
    ·obtain ⟨c,hc⟩:∃c,s[j]=c:=⟨_,rfl⟩
     have HC:Hid (s.data.toList.drop j=c::s.data.toList.drop (j+1)):=by
      have:=drop_at s j hlt
      rw[hc]at this
      exact this
     by_cases IL:(c.toNat:Int)=34
     ·have e1:((c.toNat:Int)==34)=true:=by simp[IL]
      have HV:Hid (jT s.data.toList=(X,j+1)):=by
       show _=_
       rw[HQ.out,HQQ.out,HC.out,Dl c 34 IL,aen]
       refine Prod.ext (by simp) ?_
       show j - 1+1+1=j+1
       omega
      clear IL
      obtain⟨A,cp,rfl,_,_,hrd⟩:=aJ hown
      have hst:=aF 45 9 5 Tryz.underlying45 Tryz.underlying5 Tryz.underlying9 _ cp hrd
      go_wp2
      go_ret2
      rw[HV.out]
      exact⟨rfl,hbel⟩
     ·have e1:((c.toNat:Int)==34)=false:=by simp[IL]
      by_cases h92:(c.toNat:Int)=92∧j+1<s.size
      ·obtain⟨h92,hlt2⟩:=h92
       have e2:((c.toNat:Int)==92)=true:=by simp[h92]
       have hlt2':(j:Int)+1<(s.size:Int):=by omega
       obtain⟨d,hd⟩:∃d,s[j+1]=d:=⟨_,rfl⟩
       have HC2:Hid (s.data.toList.drop (j+1)=d::s.data.toList.drop (j+2)):=by
        have:=drop_at s (j+1) hlt2
        rw[hd]at this
        exact this
       have HV:Hid (qd (s.data.toList.drop 1)=((X++[d])++(qd (s.data.toList.drop (j+2))).1,j+2 - 1+(qd (s.data.toList.drop (j+2))).2)):=by
        show _=_
        rw[HQQ.out,HC.out,HC2.out,Dl c 92 h92,aeo]
        refine Prod.ext (by simp) ?_
        simp only
        omega
       clear IL h92
       have ht:((j:Int)+1).toNat=j+1:=by omega
       go_wp2_with (at_builtin;refine aQ rfl _ _ 45 rfl w.heap.size 5 i0 (.int .u8 0) 1 Tryz.underlying45 hi hz0 hz1 hz2 rfl _ X.length _ rfl hown hbel hbel.size [.int .u8 (d.toNat:Int)] 1 rfl rfl (by intro u hu;simp at hu;subst hu;rfl) (by unfold maxLen;omega) (by omega) ?_)
       intro v' w3 hown3 dG
       clear hown hbel
       go_wp2
       go_roundw
       case rel=>exact⟨j+2,X++[d],by omega,by omega,by simp;omega,by rw[show((j+2:Nat):Int)=(j:Int)+1+1 by omega],by rw[aS,List.length_append];exact hown3,HV,dG⟩
       case measure=>simp[intOf];omega
      ·have HV:Hid (qd (s.data.toList.drop 1)=((X++[c])++(qd (s.data.toList.drop (j+1))).1,j+1 - 1+(qd (s.data.toList.drop (j+1))).2)):=by
        show _=_
        by_cases hq:(c.toNat:Int)=92
        ·have hn:j+1=s.size:=by omega
         have e:s.data.toList.drop (j+1)=[]:=by rw[hn,←HL.out,List.drop_length]
         rw[HQQ.out,HC.out,e,Dl c 92 hq,agc]
         refine Prod.ext (by simp[qd]) ?_
         simp[qd]
         omega
        ·rw[HQQ.out,HC.out,Rk c _ (ne34 c IL) (ne92 c hq)]
         refine Prod.ext (by simp) ?_
         simp only
         omega
       have hcase:((c.toNat:Int)==92)=false∨(((c.toNat:Int)==92)=true∧¬((j:Int)+1<(s.size:Int))):=by
        by_cases hq:(c.toNat:Int)=92
        ·exact .inr ⟨by simp[hq],by omega⟩
        ·exact .inl (by simp[hq])
       clear IL h92
       rcases hcase with e2|⟨e2,e3⟩
       all_goals
        go_wp2_with (at_builtin;refine aQ rfl _ _ 45 rfl w.heap.size 5 i0 (.int .u8 0) 1 Tryz.underlying45 hi hz0 hz1 hz2 rfl _ X.length _ rfl hown hbel hbel.size [.int .u8 (c.toNat:Int)] 1 rfl rfl (by intro u hu;simp at hu;subst hu;rfl) (by unfold maxLen;omega) (by omega) ?_)
        intro v' w3 hown3 dG
        clear hown hbel
        go_wp2
        go_roundw
        case rel=>exact⟨j+1,X++[c],by omega,by omega,by simp;omega,by go_num,by rw[aS,List.length_append];exact hown3,HV,dG⟩
        case measure=>simp[intOf];omega
    ·obtain rfl:j=s.size:=by omega
     have HV:Hid (jT s.data.toList=(X,s.size)):=by
      show _=_
      rw[HQ.out,HQQ.out,show s.data.toList.drop s.size=[]by rw[←HL.out,List.drop_length]]
      refine Prod.ext (by simp[qd]) ?_
      simp[qd]
      omega
     obtain⟨A,cp,rfl,_,_,hrd⟩:=aJ hown
     have hst:=aF 45 9 5 Tryz.underlying45 Tryz.underlying5 Tryz.underlying9 _ cp hrd
     go_wp2
     go_ret2
     rw[HV.out]
     exact⟨rfl,hbel⟩
  ·have e1:((c.toNat:Int) !=34)=true:=by simp[IL]
   have HQ:Hid (jT s.data.toList=([],0)):=by
    show _=_
    rw[HD0.out,jT,if_neg (ne34 c IL)]
   clear HD0 IL
   go_enter Tryz.func359,Tryz.ntmps359
   go_wp2
   go_ret2
   rw[HQ.out]
   exact⟨rfl,Below.refl _ _⟩
end Go.Proofs.YtmpeaoacaecgpaaGreatDoor.WZ
namespace Go.Proofs.YtmpeaoacaecgpaaGreatDoor.cO
open Go.RowKit Base
def low (c:UInt8):UInt8:=if 65≤c.toNat∧c.toNat≤90 then c+32 else c
def lower (l:List UInt8):List UInt8:=l.map low
def wU (l:List UInt8) (k:Nat):List UInt8:=(l.take k).map low++l.drop k
theorem pz (l:List UInt8) (k:Nat):(wU l k).length=l.length:=by simp[wU];omega
theorem Vy (l:List UInt8) (k:Nat) (h:k<l.length):(wU l k)[k]'(by rw[pz];exact h)=l[k]:=by
 have:k≤l.length:=by omega
 simp[wU,List.getElem_append,this,Nat.min_eq_left this]
theorem QK (l:List UInt8) (k:Nat) (h:k<l.length):wU l (k+1)=(wU l k).set k (low l[k]):=by
 unfold wU
 apply List.ext_getElem
 ·simp;omega
 intro i h1 h2
 simp only[List.getElem_append,List.getElem_set,List.length_map,List.length_take,List.getElem_map,List.getElem_take,List.getElem_drop]
 by_cases a:i<k
 ·rw[dif_pos (by omega),if_neg (by omega),dif_pos (by omega)]
 by_cases b:i=k
 ·subst b
  rw[dif_pos (by omega),if_pos rfl]
 rw[dif_neg (by omega),if_neg (by omega),dif_neg (by omega)]
 congr 1
 omega
theorem ahW (l:List UInt8):wU l l.length=lower l:=by simp[wU,lower]
theorem adV (l:List UInt8):wU l 0=l:=by simp[wU]
theorem afP (c:UInt8) (h1:65≤(c.toNat:Int)) (h2:(c.toNat:Int)≤90):((low c).toNat:Int)=(c.toNat:Int)+32:=by
 unfold low;rw[if_pos (by omega)];simp[UInt8.toNat_add];omega
theorem amq (c:UInt8) (h:¬(65≤(c.toNat:Int)∧(c.toNat:Int)≤90)):low c=c:=by
 unfold low;rw[if_neg (by omega)]
theorem set_self {l:List UInt8} {k:Nat} (h:k<l.length) (c:UInt8) (e:l[k]=c):l.set k c=l:=by subst e;simp
theorem gI (s:ByteArray) (w:World) (hs:s.size≤maxLen):Calls Tryz.prog 112 #[.string s] w fun e w'=>e=.returned (.string (strOf (lower s.data.toList)))∧Below w.heap.size w w':=by
 unfold maxLen at hs
 have hcv:=fun(w:World) s=>run_bytes_of_string (P:=Tryz.prog) w 9 45 5 s Tryz.underlying9 Tryz.underlying45 Tryz.underlying5
 have Gh:Hid (s.size≤grownCap w s.size 0 5):=grownCap_ge w s.size 0 5
 go_enter Tryz.func112,Tryz.ntmps112
 go_wp2
 clear hcv
 go_loopw [4,5,10] (fun _ _ i wr=>∃k:Nat,k≤s.size∧i=.int .i64 k∧oK wr w.heap.size 5 (wU s.data.toList k)∧Below w.heap.size w wr) (fun _ _ i _=>s.size - (intOf i).toNat)
 case atStart=>exact⟨0,Nat.zero_le _,rfl,(by rw[adV];exact oK.made w s 5 _ Gh.out),((Below.refl _ _).alloc (Nat.le_refl _) _).drew⟩
 case round =>
  obtain⟨k,hk,rfl,hrow,hbel⟩:=hrel
  by_cases hlt:k<s.size
  ·obtain ⟨c,hcs⟩:∃c:UInt8,c=s.data.toList[k]:=⟨_,rfl⟩
   have hc:wr.cell? ⟨w.heap.size,k,none⟩=some (.int .u8 (c.toNat:Int)):=by
    rw[hcs,hrow.cell k (by rw[pz];exact hlt)]
    simp only[Vy s.data.toList k hlt]
   have hf:=hrow.frozen k (by rw[pz];exact hlt)
   have HC:=hid hcs
   clear hcs
   have HR:=hid hrow
   clear hrow
   by_cases hA:65≤(c.toNat:Int)∧(c.toNat:Int)≤90
   ·obtain⟨hA1,hA2⟩:=hA
    go_wp2
    go_roundw
    case rel=>exact⟨k+1,by omega,by go_num,by
     have:=HR.out.set k (low c)
     rw[afP c hA1 hA2]at this
     rw[QK s.data.toList k hlt,←HC.out]
     exact this,hbel.setCell (Nat.le_refl _) _⟩
    case measure=>simp[intOf];omega
   have hlow:=amq c hA
   have HL:=hid hlow
   clear hlow
   go_wp2
   all_goals
    go_roundw
    case rel=>exact⟨k+1,by omega,by go_num,by
     rw[QK s.data.toList k hlt,←HC.out,HL.out,set_self (by rw[pz];exact hlt) c (by rw[Vy _ _ hlt,HC.out])]
     exact HR.out,hbel⟩
    case measure=>simp[intOf];omega
  obtain rfl:k=s.size:=by omega
  have hback:=run_convert_bytes_back (P:=Tryz.prog) wr 45 9 5 ⟨w.heap.size,0,none⟩ (grownCap w s.size 0 5) (wU s.data.toList s.size) Tryz.underlying45 Tryz.underlying5 Tryz.underlying9 (fun j hj=>by
   have:=hrow.cell j hj
   rw[Xd];exact this)
  rw[pz,show s.data.toList.length=s.size from Array.length_toList,show wU s.data.toList s.size=lower s.data.toList from ahW _]at hback
  go_wp2
  go_ret
  exact⟨rfl,hbel⟩
end Go.Proofs.YtmpeaoacaecgpaaGreatDoor.cO
namespace Go.Proofs.YtmpeaoacaecgpaaGreatDoor.jK
open Go.RowKit Base dI cO
theorem dN (c:Int) (w:World):Calls Tryz.prog 123 #[.int .u8 c] w fun e w'=>e=.returned (.bool (letter c))∧w=w':=by
 go_enter Tryz.func123,Tryz.ntmps123
 go_wp2
 all_goals
  go_ret
  exact⟨ak (by unfold letter;rw[Bool.eq_iff_iff];simp;omega),rfl⟩
theorem fE (c:Int) (w:World):Calls Tryz.prog 234 #[.int .u8 c] w fun e w'=>e=.returned (.bool (digit c))∧w=w':=by
 go_enter Tryz.func234,Tryz.ntmps234
 go_wp2
 all_goals
  go_ret
  exact⟨ak (by unfold digit;rw[Bool.eq_iff_iff];simp;omega),rfl⟩
theorem gI (s:ByteArray) (w:World) (hs:s.size≤1073741824):Calls Tryz.prog 79 #[.string s] w fun e w'=>e=.returned (.string (strOf (lower s.data.toList)))∧Below w.heap.size w w':=by
 obtain⟨i0,hi,hz0,hz1,hz2⟩:=info_parts iR
 have hl:s.data.toList.length=s.size:=Array.length_toList
 have HL:=hid hl
 clear hl
 go_enter Tryz.func79,Tryz.ntmps79
 go_wp2
 go_loopw [3,8] (fun v vk wr=>∃k:Nat,k≤s.size∧vk=.int .i64 k∧wr.ownsRow w.heap.size 5 1 v k (ah (lower (s.data.toList.take k)))∧Below w.heap.size w wr) (fun _ vk _=>s.size - (intOf vk).toNat)
 case atStart=>exact⟨0,Nat.zero_le _,rfl,World.ownsRow_nil _ _ _ _,Below.refl _ _⟩
 case round=>
  obtain⟨k,hk,rfl,hown,hbel⟩:=hrel
  by_cases hlt:k<s.size
  ·obtain⟨c,hc⟩:∃c,s[k]=c:=⟨_,rfl⟩
   have HS:Hid (ah (lower (s.data.toList.take (k+1)))=ah (lower (s.data.toList.take k))++[.int .u8 ((low c).toNat:Int)]):=by
    rw[←hc,List.take_succ_eq_append_getElem (by rw[HL.out];exact hlt)]
    simp[lower,ah]
    rfl
   by_cases hA:65≤(c.toNat:Int)∧(c.toNat:Int)≤90
   ·obtain⟨hA1,hA2⟩:=hA
    have HC:=hid (afP c hA1 hA2)
    go_wp2_with (at_builtin;refine wpList_append_own _ rfl _ _ 45 rfl w.heap.size 5 i0 (.int .u8 0) 1 1 Tryz.underlying45 hi hz0 hz1 hz2 rfl (by decide) _ _ _ rfl (hown.alloc _) ⟨wr.heap.size,0,none⟩ 1 1 [.int .u8 ((c.toNat:Int)+32)] rfl rfl ?c1 ?c2 ?c3 ?c4 ?c5 ?_)
    case c1=>exact cell_one_new _ _ _
    case c2=>intro u hu;simp at hu;subst hu;rfl
    case c3=>unfold maxLen;omega
    case c4=>omega
    case c5=>have:=hbel.size;simp;omega
    intro v' w2 hown2 hg2 _
    have dZ:Below w.heap.size w w2:=(hbel.alloc hbel.size _).grown hg2 (by have:=hbel.size;simp;omega) (fun g hg=>(hown.lt g hg).1)
    clear hown hbel hg2
    go_wp2
    go_roundw
    case rel=>exact⟨k+1,by omega,by go_num,by rw[HS.out,HC.out];exact hown2,dZ⟩
    case measure=>simp[intOf];omega
   have HC:=hid (amq c hA)
   go_wp2_with (at_builtin;refine wpList_append_own _ rfl _ _ 45 rfl w.heap.size 5 i0 (.int .u8 0) 1 1 Tryz.underlying45 hi hz0 hz1 hz2 rfl (by decide) _ _ _ rfl (hown.alloc _) ⟨wr.heap.size,0,none⟩ 1 1 [.int .u8 (c.toNat:Int)] rfl rfl (cell_one_new _ _ _) (by intro u hu;simp at hu;subst hu;rfl) (by unfold maxLen;omega) (by omega) (by have:=hbel.size;simp;omega) ?_)
   all_goals
    intro v' w2 hown2 hg2 _
    have dZ:Below w.heap.size w w2:=(hbel.alloc hbel.size _).grown hg2 (by have:=hbel.size;simp;omega) (fun g hg=>(hown.lt g hg).1)
    clear hown hbel hg2
    go_wp2
    go_roundw
    case rel=>exact⟨k+1,by omega,by go_num,by rw[HS.out,HC.out];exact hown2,dZ⟩
    case measure=>simp[intOf];omega
  obtain rfl:k=s.size:=by omega
  obtain⟨A,c,rfl,_,_,hrd⟩:=aJ hown
  have hst:=aF 45 9 5 Tryz.underlying45 Tryz.underlying5 Tryz.underlying9 _ c hrd
  have HE:Hid (s.data.toList.take s.size=s.data.toList):=by
   rw[←HL.out];exact List.take_length
  rw[HE.out]at hst
  go_wp2
  go_ret
  exact⟨rfl,hbel⟩
end Go.Proofs.YtmpeaoacaecgpaaGreatDoor.jK
namespace Go.Proofs.YtmpeaoacaecgpaaGreatDoor.Gn
open Go.RowKit Base Base2 dI pU WZ
def has (L:List UInt8) (c:UInt8):Bool:=L.contains c
theorem kC (s:ByteArray) (c:UInt8) (w:World) (hs:s.size≤1073741824):
  Calls Tryz.prog 85 #[.string s,.int .u8 (c.toNat:Int)] w fun e w'=>e=.returned (.bool (has s.data.toList c))∧w=w':=by
 have hl:s.data.toList.length=s.size:=Array.length_toList
 have HL:=hid hl
 clear hl
 go_enter Tryz.func85,Tryz.ntmps85
 go_wp2
 go_loop [8] (fun vk=>∃j:Nat,j≤s.size∧vk=.int .i64 j∧Hid (has s.data.toList c=has (s.data.toList.drop j) c)) (fun vk=>s.size - (intOf vk).toNat)
 case atStart=>exact⟨0,Nat.zero_le _,rfl,rfl⟩
 case round =>
  obtain⟨j,hj,rfl,HT⟩:=hrel
  by_cases hlt:j<s.size
  ·obtain ⟨d,hd⟩:∃d,s[j]=d:=⟨_,rfl⟩
   have HC:Hid (s.data.toList.drop j=d::s.data.toList.drop (j+1)):=by
    have:=drop_at s j hlt
    rw[hd]at this
    exact this
   by_cases h:(d.toNat:Int)=(c.toNat:Int)
   ·have e1:((d.toNat:Int)==(c.toNat:Int))=true:=by simp[h]
    have HV:Hid (has s.data.toList c=true):=by
     show _=_
     rw[HT.out,HC.out,Dl d c h]
     simp[has]
    clear h
    go_wp2
    go_ret
    rw[HV.out]
    exact⟨rfl,rfl⟩
   ·have e1:((d.toNat:Int)==(c.toNat:Int))=false:=by simp;omega
    have HV:Hid (has s.data.toList c=has (s.data.toList.drop (j+1)) c):=by
     show _=_
     rw[HT.out,HC.out,has,List.contains_cons,show(c==d)=false by simp;intro e;exact h (by rw[e]),Bool.false_or]
     rfl
    clear h
    go_wp2
    go_round
    case rel=>exact⟨j+1,by omega,by go_num,HV⟩
    case measure=>simp[intOf];omega
  ·obtain rfl:j=s.size:=by omega
   have HV:Hid (has s.data.toList c=false):=by
    show _=_
    rw[HT.out,←HL.out,List.drop_length]
    rfl
   go_wp2
   go_ret
   rw[HV.out]
   exact⟨rfl,rfl⟩
theorem tch_no (c:UInt8) (h1:letter c.toNat=false) (h2:digit c.toNat=false) (h3:decide (Lib.indexByte marks c<0)=true):FX c=false:=by
 rw[EM]at h3
 unfold FX
 rw[h1,h2]
 simpa using h3
theorem tch_yes (c:UInt8) (h:letter c.toNat=true∨digit c.toNat=true∨decide (Lib.indexByte marks c<0)=false):FX c=true:=by
 unfold FX
 rcases h with h|h|h
 ·simp[h]
 ·simp[h]
 rw[EM]at h
 simp at h
 simp[h]
theorem QC (s:ByteArray) (w:World) (hs:s.size≤1073741824):
  Calls Tryz.prog 264 #[.string s] w fun e w'=>e=.returned (.bool (dP s.data.toList))∧w=w':=by
 have hl:s.data.toList.length=s.size:=Array.length_toList
 have HL:=hid hl
 clear hl
 go_enter Tryz.func264,Tryz.ntmps264
 go_wp2
 go_loop [3] (fun vk=>∃j:Nat,j≤s.size∧vk=.int .i64 j∧Hid (s.data.toList.all FX=(s.data.toList.drop j).all FX)) (fun vk=>s.size - (intOf vk).toNat)
 case atStart=>exact⟨0,Nat.zero_le _,rfl,rfl⟩
 case round =>
  obtain⟨j,hj,rfl,HT⟩:=hrel
  by_cases hlt:j<s.size
  ·obtain ⟨c,hd⟩:∃d,s[j]=d:=⟨_,rfl⟩
   have HC:Hid (s.data.toList.drop j=c::s.data.toList.drop (j+1)):=by
    have:=drop_at s j hlt
    rw[hd]at this
    exact this
   have hix:=fun w=>Tryz.strings_IndexByte ⟨#[33,35,36,37,38,39,42,43,45,46,94,95,96,124,126]⟩ (c.toNat:Int) w
   rw[show((c.toNat:Int).toNat.toUInt8)=c by simp]at hix
   have YN:=hid hix
   clear hix
   obtain⟨z,hz⟩:∃z,z=Lib.indexByte marks c:=⟨_,rfl⟩
   have HZ:=hid hz
   have hzr: -1≤z:=by rw[hz];exact Lib.indexByte_ge _ _
   clear hz
   have hcase:(letter c.toNat=true∨letter c.toNat=false∧digit c.toNat=true∨letter c.toNat=false∧digit c.toNat=false∧0≤z)∨(letter c.toNat=false∧digit c.toNat=false∧z<0):=by
    cases letter c.toNat<;>cases digit c.toNat<;>simp<;>omega
   rcases hcase with h|⟨h1,h2,h3⟩
   ·have HV:Hid (s.data.toList.all FX=(s.data.toList.drop (j+1)).all FX):=by
     show _=_
     rw[HT.out,HC.out,List.all_cons,tch_yes c (by rcases h with h|⟨_,h⟩|⟨_,_,h⟩;exact .inl h;exact .inr (.inl h);exact .inr (.inr (by rw[←HZ.out];simp;omega))),Bool.true_and]
    rcases h with h|⟨h1,h2⟩|⟨h1,h2,h3⟩
    ·have H1:=hid h
     clear h
     go_wp2_with fail
     refine(dN _ _).mono ?_
     rintro e w2 ⟨rfl,rfl⟩
     rw[H1.out]
     go_wp2_with fail
     go_round
     case rel=>exact⟨j+1,by omega,by go_num,HV⟩
     case measure=>simp[intOf];omega
    ·have H1:=hid h1
     have H2:=hid h2
     clear h1 h2
     go_wp2_with fail
     refine(dN _ _).mono ?_
     rintro e w2 ⟨rfl,rfl⟩
     rw[H1.out]
     go_wp2_with fail
     refine(fE _ _).mono ?_
     rintro e w2 ⟨rfl,rfl⟩
     rw[H2.out]
     go_wp2_with fail
     go_round
     case rel=>exact⟨j+1,by omega,by go_num,HV⟩
     case measure=>simp[intOf];omega
    ·have H1:=hid h1
     have H2:=hid h2
     clear h1 h2
     go_wp2_with fail
     refine(dN _ _).mono ?_
     rintro e w2 ⟨rfl,rfl⟩
     rw[H1.out]
     go_wp2_with fail
     refine(fE _ _).mono ?_
     rintro e w2 ⟨rfl,rfl⟩
     rw[H2.out]
     go_wp2_with fail
     refine(YN.out _).mono ?_
     rintro e w2 ⟨rfl,rfl⟩
     rw[show Lib.indexByte (⟨#[33,35,36,37,38,39,42,43,45,46,94,95,96,124,126]⟩:ByteArray).data.toList c=z from HZ.out.symm]
     go_wp2_with fail
     go_round
     case rel=>exact⟨j+1,by omega,by go_num,HV⟩
     case measure=>simp[intOf];omega
   ·have HV:Hid (dP s.data.toList=false):=by
     show _=_
     rw[dP,HT.out,HC.out,List.all_cons,tch_no c h1 h2 (by rw[←HZ.out];simpa using h3),Bool.false_and,Bool.false_and]
    have H1:=hid h1
    have H2:=hid h2
    clear h1 h2
    go_wp2_with fail
    refine(dN _ _).mono ?_
    rintro e w2 ⟨rfl,rfl⟩
    rw[H1.out]
    go_wp2_with fail
    refine(fE _ _).mono ?_
    rintro e w2 ⟨rfl,rfl⟩
    rw[H2.out]
    go_wp2_with fail
    refine(YN.out _).mono ?_
    rintro e w2 ⟨rfl,rfl⟩
    rw[show Lib.indexByte (⟨#[33,35,36,37,38,39,42,43,45,46,94,95,96,124,126]⟩:ByteArray).data.toList c=z from HZ.out.symm]
    go_wp2_with fail
    go_ret
    rw[HV.out]
    exact⟨rfl,rfl⟩
  ·obtain rfl:j=s.size:=by omega
   have HV:Hid (dP s.data.toList= !s.toList.isEmpty):=by
    show _=_
    rw[dP,HT.out,←HL.out,List.drop_length,Lib.toList_data]
    rfl
   rcases Nat.eq_zero_or_pos s.size with h0|h0
   ·have e0:=toList_eq s h0
    have uQ:Hid (dP s.data.toList=false):=by rw[HV.out,e0];exact rfl
    go_wp2
    go_ret
    rw[uQ.out]
    exact⟨rfl,rfl⟩
   ·have e0:=l9 s h0
    have e0':=lQ s h0
    have uQ:Hid (dP s.data.toList=true):=by rw[HV.out,e0];exact rfl
    go_wp2
    go_ret
    rw[uQ.out]
    exact⟨rfl,rfl⟩
theorem ref_is (s:ByteArray) (w:World) (hs:s.size≤1073741824):
  Calls Tryz.prog 179 #[.string s] w fun e w'=>e=.returned (.bool (dP s.data.toList))∧w=w':=by
 have hl:s.data.toList.length=s.size:=Array.length_toList
 have HL:=hid hl
 clear hl
 go_enter Tryz.func179,Tryz.ntmps179
 go_wp2
 go_loop [6] (fun vk=>∃j:Nat,j≤s.size∧vk=.int .i64 j∧Hid (s.data.toList.all FX=(s.data.toList.drop j).all FX)) (fun vk=>s.size - (intOf vk).toNat)
 case atStart=>exact⟨0,Nat.zero_le _,rfl,rfl⟩
 case round =>
  obtain⟨j,hj,rfl,HT⟩:=hrel
  by_cases hlt:j<s.size
  ·obtain ⟨c,hd⟩:∃d,s[j]=d:=⟨_,rfl⟩
   have HC:Hid (s.data.toList.drop j=c::s.data.toList.drop (j+1)):=by
    have:=drop_at s j hlt
    rw[hd]at this
    exact this
   have hcase:(letter c.toNat=true∨letter c.toNat=false∧digit c.toNat=true∨letter c.toNat=false∧digit c.toNat=false∧has marks c=true)∨(letter c.toNat=false∧digit c.toNat=false∧has marks c=false):=by
    cases letter c.toNat<;>cases digit c.toNat<;>cases has marks c<;>simp
   rcases hcase with h|⟨h1,h2,h3⟩
   ·have HV:Hid (s.data.toList.all FX=(s.data.toList.drop (j+1)).all FX):=by
     show _=_
     rw[HT.out,HC.out,List.all_cons,show FX c=true by unfold FX;rcases h with h|⟨_,h⟩|⟨_,_,h⟩;simp[h];simp[h];unfold has at h;rw[h];simp,Bool.true_and]
    rcases h with h|⟨h1,h2⟩|⟨h1,h2,h3⟩
    ·have H1:=hid h
     clear h
     go_wp2_with fail
     refine(jK.dN _ _).mono ?_
     rintro e w2 ⟨rfl,rfl⟩
     rw[H1.out]
     go_wp2_with fail
     go_round
     case rel=>exact⟨j+1,by omega,by go_num,HV⟩
     case measure=>simp[intOf];omega
    ·have H1:=hid h1
     have H2:=hid h2
     clear h1 h2
     go_wp2_with fail
     refine(jK.dN _ _).mono ?_
     rintro e w2 ⟨rfl,rfl⟩
     rw[H1.out]
     go_wp2_with fail
     refine(jK.fE _ _).mono ?_
     rintro e w2 ⟨rfl,rfl⟩
     rw[H2.out]
     go_wp2_with fail
     go_round
     case rel=>exact⟨j+1,by omega,by go_num,HV⟩
     case measure=>simp[intOf];omega
    ·have H1:=hid h1
     have H2:=hid h2
     have H3:=hid h3
     clear h1 h2 h3
     go_wp2_with fail
     refine(jK.dN _ _).mono ?_
     rintro e w2 ⟨rfl,rfl⟩
     rw[H1.out]
     go_wp2_with fail
     refine(jK.fE _ _).mono ?_
     rintro e w2 ⟨rfl,rfl⟩
     rw[H2.out]
     go_wp2_with fail
     refine(kC (strOf marks) c _ (by decide)).mono ?_
     rintro e w2 ⟨rfl,rfl⟩
     rw[show has (strOf marks).data.toList c=true from H3.out]
     go_wp2_with fail
     go_round
     case rel=>exact⟨j+1,by omega,by go_num,HV⟩
     case measure=>simp[intOf];omega
   ·have HV:Hid (dP s.data.toList=false):=by
     show _=_
     rw[dP,HT.out,HC.out,List.all_cons,show FX c=false by unfold FX;unfold has at h3;rw[h1,h2,h3];rfl,Bool.false_and,Bool.false_and]
    have H1:=hid h1
    have H2:=hid h2
    have H3:=hid h3
    clear h1 h2 h3
    go_wp2_with fail
    refine(jK.dN _ _).mono ?_
    rintro e w2 ⟨rfl,rfl⟩
    rw[H1.out]
    go_wp2_with fail
    refine(jK.fE _ _).mono ?_
    rintro e w2 ⟨rfl,rfl⟩
    rw[H2.out]
    go_wp2_with fail
    refine(kC (strOf marks) c _ (by decide)).mono ?_
    rintro e w2 ⟨rfl,rfl⟩
    rw[show has (strOf marks).data.toList c=false from H3.out]
    go_wp2_with fail
    go_ret
    rw[HV.out]
    exact⟨rfl,rfl⟩
  ·obtain rfl:j=s.size:=by omega
   have HV:Hid (dP s.data.toList= !s.toList.isEmpty):=by
    show _=_
    rw[dP,HT.out,←HL.out,List.drop_length,Lib.toList_data]
    rfl
   rcases Nat.eq_zero_or_pos s.size with h0|h0
   ·have e0:=toList_eq s h0
    have uQ:Hid (dP s.data.toList=false):=by rw[HV.out,e0];exact rfl
    go_wp2
    go_ret
    rw[uQ.out]
    exact⟨rfl,rfl⟩
   ·have e0:=l9 s h0
    have e0':=lQ s h0
    have uQ:Hid (dP s.data.toList=true):=by rw[HV.out,e0];exact rfl
    go_wp2
    go_ret
    rw[uQ.out]
    exact⟨rfl,rfl⟩
end Go.Proofs.YtmpeaoacaecgpaaGreatDoor.Gn
namespace Go.Proofs.YtmpeaoacaecgpaaGreatDoor.Zz
open Go.RowKit Base Base2 pU WZ Gn
theorem anS (s:ByteArray) (w:World) (hs:s.size≤1073741824):
  Calls Tryz.prog 262 #[.string s] w fun e w'=>e=.returned (.string (strOf (ru s.data.toList)))∧Below w.heap.size w w':=by
 have hcon:Calls Tryz.prog 71 #[.string s,.string (strOf blanks)] w fun e w'=>e=.returned (.string (strOf (ru s.data.toList)))∧Below w.heap.size w w':=
  Tryz.strings_Trim_set s (strOf blanks) w (by omega) (by decide) (ascii_of_all (by decide))
 obtain⟨r,hr⟩:∃r,r=strOf (ru s.data.toList):=⟨_,rfl⟩
 rw[←hr]at hcon⊢
 clear hr
 go_enter Tryz.func262,Tryz.ntmps262
 go_wp2_with fail
 refine hcon.mono ?_
 rintro e w1 ⟨rfl,hb⟩
 go_wp2_with fail
 go_ret
 exact⟨rfl,hb⟩
theorem zi (s:ByteArray) (w:World) (hs:s.size≤1073741824):
  Calls Tryz.prog 263 #[.string s] w fun e w'=>e=.returned (.string (strOf (tr s.data.toList)))∧Below w.heap.size w w':=by
 have hcon:Calls Tryz.prog 172 #[.string s,.string (strOf blanks)] w fun e w'=>e=.returned (.string (strOf (tr s.data.toList)))∧Below w.heap.size w w':=
  Tryz.strings_TrimRight_set s (strOf blanks) w (by omega) (by decide) (ascii_of_all (by decide))
 obtain⟨r,hr⟩:∃r,r=strOf (tr s.data.toList):=⟨_,rfl⟩
 rw[←hr]at hcon⊢
 clear hr
 go_enter Tryz.func263,Tryz.ntmps263
 go_wp2_with fail
 refine hcon.mono ?_
 rintro e w1 ⟨rfl,hb⟩
 go_wp2_with fail
 go_ret
 exact⟨rfl,hb⟩
theorem ext_to (s:ByteArray) (k:Nat):s.extract 0 k=strOf (s.data.toList.take k):=by
 apply ByteArray.ext
 apply Array.ext'
 rw[ByteArray.data_extract]
 simp[strOf,Array.toList_extract,List.extract_eq_take_drop]
theorem ext_from (s:ByteArray) (k n:Nat) (h:n=s.size):s.extract k n=strOf (s.data.toList.drop k):=by
 subst h
 apply ByteArray.ext
 apply Array.ext'
 rw[ByteArray.data_extract]
 simp only[strOf,Array.toList_extract,List.extract_eq_take_drop]
 rw[List.take_of_length_le]
 rw[List.length_drop,Array.length_toList]
 exact Nat.le_refl _
end Go.Proofs.YtmpeaoacaecgpaaGreatDoor.Zz
namespace Go.Proofs.YtmpeaoacaecgpaaGreatDoor.ajm
open Go.RowKit Base Base2 pU WZ Gn Zz
def YU (C L:List UInt8):List UInt8:=Lib.trimRightS L C
def tlS (C L:List UInt8):List UInt8:=Lib.trimLeftS L C
theorem Eo (C L:List UInt8) (c:UInt8):YU C (L++[c])=if C.contains c then YU C L else L++[c]:=by
 unfold YU Lib.trimRightS
 rw[List.reverse_append,List.reverse_singleton,List.singleton_append,List.dropWhile_cons]
 split
 ·rfl
 simp
theorem Si (C L:List UInt8) (c:UInt8):tlS C (c::L)=if C.contains c then tlS C L else c::L:=by
 unfold tlS Lib.trimLeftS
 rw[List.dropWhile_cons]
theorem Sv (C L:List UInt8):Lib.trimS L C=YU C (tlS C L):=by
 unfold Lib.trimS YU tlS Lib.trimRightS Lib.trimLeftS
 rw[alg,List.reverse_reverse]
theorem agu (C L:List UInt8):(YU C L).length≤L.length:=by
 unfold YU Lib.trimRightS
 rw[List.length_reverse]
 have:=(List.dropWhile_sublist (fun x=>C.contains x) (l:=L.reverse)).length_le
 simpa using this
theorem aiQ (C L:List UInt8):(Lib.trimS L C).length≤L.length:=by
 rw[Sv]
 refine Nat.le_trans (agu _ _) ?_
 unfold tlS Lib.trimLeftS
 exact(List.dropWhile_sublist _).length_le
end Go.Proofs.YtmpeaoacaecgpaaGreatDoor.ajm
namespace Go.Proofs.YtmpeaoacaecgpaaGreatDoor.qh
open Go.RowKit Base
def size (c:Int):Int:=if c≤127 then 1 else if 194≤c∧c≤223 then 2 else if 224≤c∧c≤239 then 3 else if 240≤c∧c≤244 then 4 else 0
def lo (c:Int):Int:=if c≤193∨245≤c then 0 else if c=224 then 160 else if c=240 then 144 else 128
def hi (c:Int):Int:=if c≤193∨245≤c then 0 else if c=237 then 159 else if c=244 then 143 else 191
theorem lead_any (c:Int) (w:World):Calls Tryz.prog 247 #[.int .u8 c] w fun e w'=>e=.returned (.tuple #[.int .i64 (size c),.int .u8 (lo c),.int .u8 (hi c)])∧w=w':=by
 go_enter Tryz.func247,Tryz.ntmps247
 go_wp2
 all_goals
  try simp only[beq_iff_eq,beq_eq_false_iff_ne,ne_eq]at*
  go_ret3
  exact⟨ret3 (int_eq (by unfold size;(repeat' split)<;>omega)) (int_eq (by unfold lo;(repeat' split)<;>omega)) (int_eq (by unfold hi;(repeat' split)<;>omega)),rfl⟩
theorem anj (b off n cap:Nat) (c:Int) (w:World) (hc:w.cell? ⟨b,off,none⟩=some (.int .u8 c)) (h0:0<n) (h1:0≤c) (h2:c≤127):
  Calls Tryz.prog 145 #[.slice (some ⟨b,off,none⟩) n cap] w fun e w'=>e=.returned (.tuple #[.int .i32 c,.int .i64 1,.bool true])∧w=w':=by
 have hs:size c=1:=by unfold size;(repeat' split)<;>omega
 have HS:=hid hs
 clear hs
 have hp:(0:Int)<(n:Int):=by omega
 go_enter Tryz.func145,Tryz.ntmps145
 go_wp2_with (go_at_call 247;refine(lead_any _ _).mono ?_;rintro e w' ⟨rfl,rfl⟩;rw[HS.out])
 go_ret3
 exact⟨rfl,rfl⟩
theorem ais (b off n cap:Nat) (c:Int) (w:World) (hc:w.cell? ⟨b,off,none⟩=some (.int .u8 c)) (h0:0<n) (h1:(128≤c∧c≤193)∨245≤c):
  Calls Tryz.prog 145 #[.slice (some ⟨b,off,none⟩) n cap] w fun e w'=>e=.returned (.tuple #[.int .i32 65533,.int .i64 1,.bool false])∧w=w':=by
 have hs:size c=0:=by unfold size;(repeat' split)<;>omega
 have HS:=hid hs
 clear hs
 have hp:(0:Int)<(n:Int):=by omega
 go_enter Tryz.func145,Tryz.ntmps145
 go_wp2_with (go_at_call 247;refine(lead_any _ _).mono ?_;rintro e w' ⟨rfl,rfl⟩;rw[HS.out])
 go_ret3
 exact⟨rfl,rfl⟩
def tail:Nat→Nat→Int→Int→Int→List UInt8→Int×Int×Bool
 |0,k,_,_,r,_=>(r,k,true)
 |_+1,k,_,_,_,[]=>(65533,k,false)
 |m+1,k,l,h,r,c::t=>if (c.toNat:Int)<l∨h<(c.toNat:Int)then(65533,k,false)else tail m (k+1) 128 191 (r*64+(c.toNat:Int)%64) t
def room:Nat→Int
 |0=>0
 |1=>32
 |2=>2048
 |3=>131072
 |_=>8388608
theorem uI (k:Nat) (h0:1≤k) (h1:k≤3):room (k+1)=room k*64∧room k≤131072:=by
 match k,h0,h1 with
 |1,_,_=>decide
 |2,_,_=>decide
 |3,_,_=>decide
theorem read_2 (b off cap:Nat) (L:List UInt8) (c:Int) (w:World) (hc:w.cell? ⟨b,off,none⟩=some (.int .u8 c)) (hL:∀j (h:j<L.length),w.cell? ⟨b,off+j,none⟩=some (.int .u8 (L[j].toNat:Int)))
  (hm:L.length≤maxLen) (h0:0<L.length) (h1:194≤c) (h2:c≤223) (R:Int×Int×Bool) (hR:R=tail 1 1 (lo c) (hi c) (c%32) (L.drop 1)):
  Calls Tryz.prog 145 #[.slice (some ⟨b,off,none⟩) L.length cap] w fun e w'=>e=.returned (.tuple #[.int .i32 R.1,.int .i64 R.2.1,.bool R.2.2])∧Below w.heap.size w w':=by
 have hs:size c=2:=by unfold size;(repeat' split)<;>omega
 have HS:=hid hs
 clear hs
 unfold maxLen at hm
 have hp:(0:Int)<(L.length:Int):=by omega
 have HL:=hid hL
 clear hL
 have HR:=hid hR
 clear hR
 have hr0:0≤c%32∧c%32<32:=by omega
 go_enter Tryz.func145,Tryz.ntmps145
 go_wp2_with (go_at_call 247;refine(lead_any _ _).mono ?_;rintro e w' ⟨rfl,rfl⟩;rw[HS.out])
 go_quiet (fail)
 go_wp2
 go_loop [6,7,8,9] (fun vl vh vr vk=>∃(k:Nat) (l h r:Int),1≤k∧k≤2∧k≤L.length∧vk=.int .i64 k∧vl=.int .u8 l∧vh=.int .u8 h∧vr=.int .i32 r∧0≤r∧r<room k∧Hid (R=tail (2 - k) k l h r (L.drop k))) (fun _ _ _ vk=>2 - (intOf vk).toNat)
 case atStart=>exact⟨1,lo c,hi c,c%32,by omega,by omega,by omega,rfl,rfl,rfl,rfl,hr0.1,hr0.2,HR⟩
 case round=>
  obtain⟨k,l,h,r,hk1,hk2,hkn,rfl,rfl,rfl,rfl,hr1,hr2,HT⟩:=hrel
  by_cases hlt:k<2
  ·obtain ⟨hb1,hb2⟩:=uI k hk1 (by omega)
   have HB:=hid hb1
   clear hb1
   have hr3:r<131072:=by omega
   have es:2 - k=(2 - (k+1))+1:=by omega
   have HT2:Hid (R=tail ((2 - (k+1))+1) k l h r (L.drop k)):=by rw[←es];exact HT
   clear es HT
   by_cases hn:k<L.length
   ·obtain ⟨x,hx⟩:∃x,x=L[k]:=⟨_,rfl⟩
    have hcell:w.cell? ⟨b,off+k,none⟩=some (.int .u8 (x.toNat:Int)):=by rw[hx];exact HL.out k hn
    have HT3:Hid (R=tail ((2 - (k+1))+1) k l h r (x::L.drop (k+1))):=by
     have hd:L.drop k=x::L.drop (k+1):=by rw[hx];exact List.drop_eq_getElem_cons hn
     rw[←hd];exact HT2
    clear HT2 hx
    have hx2:(x.toNat:Int)<256:=by have:=x.toNat_lt;omega
    have hne:((k:Int)==(L.length:Int))=false:=by simp;omega
    by_cases ht:(x.toNat:Int)<l∨h<(x.toNat:Int)
    ·have HT4:Hid (R=(65533,(k:Int),false)):=by
      have e:=HT3.out
      rw[tail,if_pos ht]at e
      exact e
     clear HT3
     go_wp2
     all_goals
      go_ret3
      rw[HT4.out]
      exact⟨rfl,Base.below_drewN (Below.refl _ _) _⟩
    ·have HT4:Hid (R=tail (2 - (k+1)) (k+1) 128 191 (r*64+(x.toNat:Int)%64) (L.drop (k+1))):=by
      have e:=HT3.out
      rw[tail,if_neg ht]at e
      exact e
     clear HT3
     have ht1:l≤(x.toNat:Int):=by omega
     have ht2:(x.toNat:Int)≤h:=by omega
     clear ht
     go_wp2
     go_round
     case rel=>exact⟨k+1,128,191,r*64+(x.toNat:Int)%64,by omega,by omega,by omega,by go_num,rfl,rfl,rfl,by omega,by rw[HB.out];omega,HT4⟩
     case measure=>simp[intOf];omega
   ·obtain rfl:k=L.length:=by omega
    have HT4:Hid (R=(65533,(L.length:Int),false)):=by
     have e:=HT2.out
     rw[List.drop_length,tail]at e
     exact e
    clear HT2
    go_wp2
    go_ret3
    rw[HT4.out]
    exact⟨rfl,Base.below_drewN (Below.refl _ _) _⟩
  ·obtain rfl:k=2:=by omega
   have HT4:Hid (R=(r,2,true)):=by
    have e:=HT.out
    rw[Nat.sub_self,tail]at e
    exact e
   clear HT
   go_wp2
   go_ret3
   rw[HT4.out]
   exact⟨rfl,Base.below_drewN (Below.refl _ _) _⟩
theorem read_3 (b off cap:Nat) (L:List UInt8) (c:Int) (w:World) (hc:w.cell? ⟨b,off,none⟩=some (.int .u8 c)) (hL:∀j (h:j<L.length),w.cell? ⟨b,off+j,none⟩=some (.int .u8 (L[j].toNat:Int)))
  (hm:L.length≤maxLen) (h0:0<L.length) (h1:224≤c) (h2:c≤239) (R:Int×Int×Bool) (hR:R=tail 2 1 (lo c) (hi c) (c%16) (L.drop 1)):
  Calls Tryz.prog 145 #[.slice (some ⟨b,off,none⟩) L.length cap] w fun e w'=>e=.returned (.tuple #[.int .i32 R.1,.int .i64 R.2.1,.bool R.2.2])∧Below w.heap.size w w':=by
 have hs:size c=3:=by unfold size;(repeat' split)<;>omega
 have HS:=hid hs
 clear hs
 unfold maxLen at hm
 have hp:(0:Int)<(L.length:Int):=by omega
 have HL:=hid hL
 clear hL
 have HR:=hid hR
 clear hR
 have hr0:0≤c%16∧c%16<32:=by omega
 go_enter Tryz.func145,Tryz.ntmps145
 go_wp2_with (go_at_call 247;refine(lead_any _ _).mono ?_;rintro e w' ⟨rfl,rfl⟩;rw[HS.out])
 go_quiet (fail)
 go_wp2
 go_loop [6,7,8,9] (fun vl vh vr vk=>∃(k:Nat) (l h r:Int),1≤k∧k≤3∧k≤L.length∧vk=.int .i64 k∧vl=.int .u8 l∧vh=.int .u8 h∧vr=.int .i32 r∧0≤r∧r<room k∧Hid (R=tail (3 - k) k l h r (L.drop k))) (fun _ _ _ vk=>3 - (intOf vk).toNat)
 case atStart=>exact⟨1,lo c,hi c,c%16,by omega,by omega,by omega,rfl,rfl,rfl,rfl,hr0.1,hr0.2,HR⟩
 case round=>
  obtain⟨k,l,h,r,hk1,hk2,hkn,rfl,rfl,rfl,rfl,hr1,hr2,HT⟩:=hrel
  by_cases hlt:k<3
  ·obtain ⟨hb1,hb2⟩:=uI k hk1 (by omega)
   have HB:=hid hb1
   clear hb1
   have hr3:r<131072:=by omega
   have es:3 - k=(3 - (k+1))+1:=by omega
   have HT2:Hid (R=tail ((3 - (k+1))+1) k l h r (L.drop k)):=by rw[←es];exact HT
   clear es HT
   by_cases hn:k<L.length
   ·obtain ⟨x,hx⟩:∃x,x=L[k]:=⟨_,rfl⟩
    have hcell:w.cell? ⟨b,off+k,none⟩=some (.int .u8 (x.toNat:Int)):=by rw[hx];exact HL.out k hn
    have HT3:Hid (R=tail ((3 - (k+1))+1) k l h r (x::L.drop (k+1))):=by
     have hd:L.drop k=x::L.drop (k+1):=by rw[hx];exact List.drop_eq_getElem_cons hn
     rw[←hd];exact HT2
    clear HT2 hx
    have hx2:(x.toNat:Int)<256:=by have:=x.toNat_lt;omega
    have hne:((k:Int)==(L.length:Int))=false:=by simp;omega
    by_cases ht:(x.toNat:Int)<l∨h<(x.toNat:Int)
    ·have HT4:Hid (R=(65533,(k:Int),false)):=by
      have e:=HT3.out
      rw[tail,if_pos ht]at e
      exact e
     clear HT3
     go_wp2
     all_goals
      go_ret3
      rw[HT4.out]
      exact⟨rfl,Base.below_drewN (Below.refl _ _) _⟩
    ·have HT4:Hid (R=tail (3 - (k+1)) (k+1) 128 191 (r*64+(x.toNat:Int)%64) (L.drop (k+1))):=by
      have e:=HT3.out
      rw[tail,if_neg ht]at e
      exact e
     clear HT3
     have ht1:l≤(x.toNat:Int):=by omega
     have ht2:(x.toNat:Int)≤h:=by omega
     clear ht
     go_wp2
     go_round
     case rel=>exact⟨k+1,128,191,r*64+(x.toNat:Int)%64,by omega,by omega,by omega,by go_num,rfl,rfl,rfl,by omega,by rw[HB.out];omega,HT4⟩
     case measure=>simp[intOf];omega
   ·obtain rfl:k=L.length:=by omega
    have HT4:Hid (R=(65533,(L.length:Int),false)):=by
     have e:=HT2.out
     rw[List.drop_length,tail]at e
     exact e
    clear HT2
    go_wp2
    go_ret3
    rw[HT4.out]
    exact⟨rfl,Base.below_drewN (Below.refl _ _) _⟩
  ·obtain rfl:k=3:=by omega
   have HT4:Hid (R=(r,3,true)):=by
    have e:=HT.out
    rw[Nat.sub_self,tail]at e
    exact e
   clear HT
   go_wp2
   go_ret3
   rw[HT4.out]
   exact⟨rfl,Base.below_drewN (Below.refl _ _) _⟩
theorem read_4 (b off cap:Nat) (L:List UInt8) (c:Int) (w:World) (hc:w.cell? ⟨b,off,none⟩=some (.int .u8 c)) (hL:∀j (h:j<L.length),w.cell? ⟨b,off+j,none⟩=some (.int .u8 (L[j].toNat:Int)))
  (hm:L.length≤maxLen) (h0:0<L.length) (h1:240≤c) (h2:c≤244) (R:Int×Int×Bool) (hR:R=tail 3 1 (lo c) (hi c) (c%8) (L.drop 1)):
  Calls Tryz.prog 145 #[.slice (some ⟨b,off,none⟩) L.length cap] w fun e w'=>e=.returned (.tuple #[.int .i32 R.1,.int .i64 R.2.1,.bool R.2.2])∧Below w.heap.size w w':=by
 have hs:size c=4:=by unfold size;(repeat' split)<;>omega
 have HS:=hid hs
 clear hs
 unfold maxLen at hm
 have hp:(0:Int)<(L.length:Int):=by omega
 have HL:=hid hL
 clear hL
 have HR:=hid hR
 clear hR
 have hr0:0≤c%8∧c%8<32:=by omega
 go_enter Tryz.func145,Tryz.ntmps145
 go_wp2_with (go_at_call 247;refine(lead_any _ _).mono ?_;rintro e w' ⟨rfl,rfl⟩;rw[HS.out])
 go_quiet (fail)
 go_wp2
 go_loop [6,7,8,9] (fun vl vh vr vk=>∃(k:Nat) (l h r:Int),1≤k∧k≤4∧k≤L.length∧vk=.int .i64 k∧vl=.int .u8 l∧vh=.int .u8 h∧vr=.int .i32 r∧0≤r∧r<room k∧Hid (R=tail (4 - k) k l h r (L.drop k))) (fun _ _ _ vk=>4 - (intOf vk).toNat)
 case atStart=>exact⟨1,lo c,hi c,c%8,by omega,by omega,by omega,rfl,rfl,rfl,rfl,hr0.1,hr0.2,HR⟩
 case round=>
  obtain⟨k,l,h,r,hk1,hk2,hkn,rfl,rfl,rfl,rfl,hr1,hr2,HT⟩:=hrel
  by_cases hlt:k<4
  ·obtain ⟨hb1,hb2⟩:=uI k hk1 (by omega)
   have HB:=hid hb1
   clear hb1
   have hr3:r<131072:=by omega
   have es:4 - k=(4 - (k+1))+1:=by omega
   have HT2:Hid (R=tail ((4 - (k+1))+1) k l h r (L.drop k)):=by rw[←es];exact HT
   clear es HT
   by_cases hn:k<L.length
   ·obtain ⟨x,hx⟩:∃x,x=L[k]:=⟨_,rfl⟩
    have hcell:w.cell? ⟨b,off+k,none⟩=some (.int .u8 (x.toNat:Int)):=by rw[hx];exact HL.out k hn
    have HT3:Hid (R=tail ((4 - (k+1))+1) k l h r (x::L.drop (k+1))):=by
     have hd:L.drop k=x::L.drop (k+1):=by rw[hx];exact List.drop_eq_getElem_cons hn
     rw[←hd];exact HT2
    clear HT2 hx
    have hx2:(x.toNat:Int)<256:=by have:=x.toNat_lt;omega
    have hne:((k:Int)==(L.length:Int))=false:=by simp;omega
    by_cases ht:(x.toNat:Int)<l∨h<(x.toNat:Int)
    ·have HT4:Hid (R=(65533,(k:Int),false)):=by
      have e:=HT3.out
      rw[tail,if_pos ht]at e
      exact e
     clear HT3
     go_wp2
     all_goals
      go_ret3
      rw[HT4.out]
      exact⟨rfl,Base.below_drewN (Below.refl _ _) _⟩
    ·have HT4:Hid (R=tail (4 - (k+1)) (k+1) 128 191 (r*64+(x.toNat:Int)%64) (L.drop (k+1))):=by
      have e:=HT3.out
      rw[tail,if_neg ht]at e
      exact e
     clear HT3
     have ht1:l≤(x.toNat:Int):=by omega
     have ht2:(x.toNat:Int)≤h:=by omega
     clear ht
     go_wp2
     go_round
     case rel=>exact⟨k+1,128,191,r*64+(x.toNat:Int)%64,by omega,by omega,by omega,by go_num,rfl,rfl,rfl,by omega,by rw[HB.out];omega,HT4⟩
     case measure=>simp[intOf];omega
   ·obtain rfl:k=L.length:=by omega
    have HT4:Hid (R=(65533,(L.length:Int),false)):=by
     have e:=HT2.out
     rw[List.drop_length,tail]at e
     exact e
    clear HT2
    go_wp2
    go_ret3
    rw[HT4.out]
    exact⟨rfl,Base.below_drewN (Below.refl _ _) _⟩
  ·obtain rfl:k=4:=by omega
   have HT4:Hid (R=(r,4,true)):=by
    have e:=HT.out
    rw[Nat.sub_self,tail]at e
    exact e
   clear HT
   go_wp2
   go_ret3
   rw[HT4.out]
   exact⟨rfl,Base.below_drewN (Below.refl _ _) _⟩
end Go.Proofs.YtmpeaoacaecgpaaGreatDoor.qh
namespace Go.Proofs.YtmpeaoacaecgpaaGreatDoor.qh
open Go.RowKit Base
def rd:List UInt8→Int×Int×Bool
 |[]=>(65533,1,false)
 |x::t=>
  let c:Int:=x.toNat
  if c≤127 then(c,1,true)else if c≤193∨245≤c then(65533,1,false)else if c≤223 then tail 1 1 (lo c) (hi c) (c%32) t else if c≤239 then tail 2 1 (lo c) (hi c) (c%16) t else tail 3 1 (lo c) (hi c) (c%8) t
theorem abl (b off n cap:Nat) (L:List UInt8) (w:World) (h:aY w (some ⟨b,off,none⟩) n (ah L)) (hm:n≤maxLen) (h0:0<n) (R:Int×Int×Bool) (hR:R=rd L):
  Calls Tryz.prog 145 #[.slice (some ⟨b,off,none⟩) n cap] w fun e w'=>e=.returned (.tuple #[.int .i32 R.1,.int .i64 R.2.1,.bool R.2.2])∧Below w.heap.size w w':=by
 have hl:L.length=n:=by rw[←aI];exact h.1
 subst hl
 obtain⟨x,t,rfl⟩:∃x t,L=x::t:=by
  cases L with
  |nil=>simp at h0
  |cons x t=>exact⟨x,t,rfl⟩
 have hc:w.cell? ⟨b,off,none⟩=some (.int .u8 (x.toNat:Int)):=by
  have:=h.byte 0 (by simp)
  rw[Nat.add_zero]at this
  exact this
 have hL:∀j (hj:j<(x::t).length),w.cell? ⟨b,off+j,none⟩=some (.int .u8 ((x::t)[j].toNat:Int)):=fun j hj=>h.byte j hj
 have hx:(x.toNat:Int)<256:=by have:=x.toNat_lt;omega
 by_cases h1:(x.toNat:Int)≤127
 ·rw[rd,if_pos h1]at hR
  subst hR
  exact(anj b off _ cap _ w hc h0 (by omega) h1).mono fun e w' ⟨he,hw⟩=>⟨he,hw▸Below.refl _ _⟩
 by_cases h2:(x.toNat:Int)≤193∨245≤(x.toNat:Int)
 ·rw[rd,if_neg h1,if_pos h2]at hR
  subst hR
  exact(ais b off _ cap _ w hc h0 (by omega)).mono fun e w' ⟨he,hw⟩=>⟨he,hw▸Below.refl _ _⟩
 by_cases h3:(x.toNat:Int)≤223
 ·rw[rd,if_neg h1,if_neg h2,if_pos h3]at hR
  exact read_2 b off cap _ _ w hc hL hm h0 (by omega) (by omega) R hR
 by_cases h4:(x.toNat:Int)≤239
 ·rw[rd,if_neg h1,if_neg h2,if_neg h3,if_pos h4]at hR
  exact read_3 b off cap _ _ w hc hL hm h0 (by omega) (by omega) R hR
 ·rw[rd,if_neg h1,if_neg h2,if_neg h3,if_neg h4]at hR
  exact read_4 b off cap _ _ w hc hL hm h0 (by omega) (by omega) R hR
theorem tail_size:∀(m k:Nat) (l h r:Int) (t:List UInt8),(k:Int)≤(tail m k l h r t).2.1∧(tail m k l h r t).2.1≤k+t.length
 |0,k,_,_,_,t=>by simp[tail];omega
 |m+1,k,l,h,r,[]=>by simp[tail]
 |m+1,k,l,h,r,c::t=>by
  rw[tail]
  split
  ·simp;omega
  ·have:=tail_size m (k+1) 128 191 (r*64+(c.toNat:Int)%64) t
   simp only[List.length_cons]
   omega
theorem nJ (x:UInt8) (t:List UInt8):1≤(rd (x::t)).2.1∧(rd (x::t)).2.1≤(t.length:Int)+1:=by
 simp only[rd]
 (repeat' split)
 ·simp;omega
 ·simp;omega
 ·have:=tail_size 1 1 (lo x.toNat) (hi x.toNat) (x.toNat%32) t;omega
 ·have:=tail_size 2 1 (lo x.toNat) (hi x.toNat) (x.toNat%16) t;omega
 have:=tail_size 3 1 (lo x.toNat) (hi x.toNat) (x.toNat%8) t;omega
def xI:Nat→List UInt8→List Int
 |0,_=>[]
 |_+1,[]=>[]
 |n+1,x::t=>(rd (x::t)).1::xI n ((x::t).drop (rd (x::t)).2.1.toNat)
def dec (L:List UInt8):List Int:=xI L.length L
theorem uy:∀(n m:Nat) (L:List UInt8),L.length≤n→L.length≤m→xI n L=xI m L
 |0,0,_,_,_=>rfl
 |0,m+1,[],_,_=>rfl
 |0,_+1,_::_,h,_=>by simp at h
 |n+1,0,[],_,_=>rfl
 |_+1,0,_::_,_,h=>by simp at h
 |_+1,_+1,[],_,_=>rfl
 |n+1,m+1,x::t,h1,h2=>by
  have hs:=nJ x t
  simp only[List.length_cons]at h1 h2
  rw[xI,xI,uy n m _ (by simp;omega) (by simp;omega)]
theorem lT:dec []=[]:=rfl
theorem iK (x:UInt8) (t:List UInt8):dec (x::t)=(rd (x::t)).1::dec ((x::t).drop (rd (x::t)).2.1.toNat):=by
 have hs:=nJ x t
 unfold dec
 rw[List.length_cons,xI,uy _ _ _ (by simp;omega) (Nat.le_refl _)]
theorem Qc (L:List UInt8) (k:Nat) (h:k<L.length):
  dec (L.drop k)=(rd (L.drop k)).1::dec (L.drop (k+(rd (L.drop k)).2.1.toNat))∧1≤(rd (L.drop k)).2.1∧(rd (L.drop k)).2.1≤(L.length:Int) - k:=by
 obtain⟨x,t,ht⟩:∃x t,L.drop k=x::t:=by
  cases e:L.drop k with
  |nil=>simp at e;omega
  |cons x t=>exact⟨x,t,rfl⟩
 have hs:=nJ x t
 have hl:(L.drop k).length=L.length - k:=List.length_drop
 rw[ht,List.length_cons]at hl
 refine⟨?_,?_,?_⟩
 ·rw[ht,iK,←ht,List.drop_drop]
 ·rw[ht];exact hs.1
 ·rw[ht];omega
theorem info21:(Tryz.prog.info? 21).map (fun i=>(i.zero,i.size,i.bytes))=some (some (.int .i32 0),1,4):=by kernel_rfl
theorem decode_any (A:Option Addr) (n cap:Nat) (L:List UInt8) (w:World) (h:aY w A n (ah L)) (hm:n≤1073741824) (hcap:n≤cap):
  Calls Tryz.prog 55 #[.slice A n cap] w fun e w'=>∃v,e=.returned v∧w'.ownsRow w.heap.size 21 1 v (dec L).length (gV .i32 (dec L))∧Below w.heap.size w w':=by
 have hl:L.length=n:=by rw[←aI];exact h.1
 have HL:=hid hl
 clear hl
 obtain⟨i0,hi,hz0,hz1,hz2⟩:=info_parts info21
 have HH:=hid h
 clear h
 go_enter Tryz.func55,Tryz.ntmps55
 go_wp2
 go_loopw [3,4] (fun v vk wr=>∃(k:Nat) (acc:List Int),k≤n∧acc.length≤k∧vk=.int .i64 k∧wr.ownsRow w.heap.size 21 1 v acc.length (gV .i32 acc)∧Below w.heap.size w wr∧Hid (acc++dec (L.drop k)=dec L)) (fun _ vk _=>n - (intOf vk).toNat)
 case atStart=>exact⟨0,[],Nat.zero_le _,Nat.le_refl _,rfl,World.ownsRow_nil _ _ _ _,Below.refl _ _,rfl⟩
 case round =>
  obtain⟨k,acc,hk,hacc,rfl,hown,hbel,HT⟩:=hrel
  by_cases hlt:k<n
  ·obtain ⟨b,off,rfl,hb,_⟩:=(HH.out).spot (by omega)
   have hcut:Hid (aY wr (some ⟨b,off+k,none⟩) (n - k) (ah (L.drop k))):=by
    rw[jl]
    exact(HH.out.cut k hk).below hbel
   have hne:¬cap=k:=by omega
   obtain⟨hd1,hd2,hd3⟩:=Qc L k (by rw[HL.out];exact hlt)
   obtain⟨R,hR⟩:∃R,R=rd (L.drop k):=⟨_,rfl⟩
   rw[←hR]at hd1 hd2 hd3
   rw[HL.out]at hd3
   have HD:=hid hd1
   have HR:=hid hR
   clear hd1 hR
   go_wp2_with fail
   refine(abl b (off+k) (n - k) (cap - k) (L.drop k) _ hcut.out (by unfold maxLen;omega) (by omega) R HR.out).mono ?_
   rintro e w1 ⟨rfl,hb1⟩
   have hown1:=aP hown hb1
   have gW:=hbel.trans (hb1.mono hbel.size)
   clear hown hbel
   go_wp2_with (at_builtin;refine wpList_append_own _ rfl _ _ 73 rfl w.heap.size 21 i0 (.int .i32 0) 1 4 Tryz.underlying73 hi hz0 hz1 hz2 rfl (by decide) _ _ _ rfl (hown1.alloc _) ⟨w1.heap.size,0,none⟩ 1 1 [.int .i32 R.1] rfl rfl ?c1 ?c2 ?c3 ?c4 ?c5 ?_)
   case c1=>exact cell_one_new _ _ _
   case c2=>intro u hu;simp at hu;subst hu;rfl
   case c3=>unfold maxLen;omega
   case c4=>omega
   case c5=>have:=gW.size;simp;omega
   intro v' w2 hown2 hg2 _
   have dZ:Below w.heap.size w w2:=(gW.alloc gW.size _).grown hg2 (by have:=gW.size;simp;omega) (fun g hg=>(hown1.lt g hg).1)
   clear hown1 gW hg2
   go_wp2
   go_roundw
   case rel=>exact⟨k+R.2.1.toNat,acc++[R.1],by omega,by simp;omega,by rw[show((k+R.2.1.toNat:Nat):Int)=(k:Int)+R.2.1 by omega],by rw[iE,List.length_append];exact hown2,dZ,by
     have:=HT.out
     rw[HD.out]at this
     rw[List.append_assoc]
     exact this⟩
   case measure=>simp[intOf];omega
  ·obtain rfl:k=n:=by omega
   have HE:Hid (acc=dec L):=by
    have e:=HT.out
    rw[←HL.out,List.drop_length,lT,List.append_nil]at e
    exact e
   go_wp2
   go_ret
   exact⟨_,rfl,by rw[←HE.out];exact hown,hbel⟩
def aeM:Nat→List UInt8→Bool
 |0,_=>true
 |_+1,[]=>true
 |n+1,x::t=>(rd (x::t)).2.2&&aeM n ((x::t).drop (rd (x::t)).2.1.toNat)
def val (L:List UInt8):Bool:=aeM L.length L
theorem Wu:∀(n m:Nat) (L:List UInt8),L.length≤n→L.length≤m→aeM n L=aeM m L
 |0,0,_,_,_=>rfl
 |0,m+1,[],_,_=>rfl
 |0,_+1,_::_,h,_=>by simp at h
 |n+1,0,[],_,_=>rfl
 |_+1,0,_::_,_,h=>by simp at h
 |_+1,_+1,[],_,_=>rfl
 |n+1,m+1,x::t,h1,h2=>by
  have hs:=nJ x t
  simp only[List.length_cons]at h1 h2
  rw[aeM,aeM,Wu n m _ (by simp;omega) (by simp;omega)]
theorem sH (x:UInt8) (t:List UInt8):val (x::t)=((rd (x::t)).2.2&&val ((x::t).drop (rd (x::t)).2.1.toNat)):=by
 have hs:=nJ x t
 unfold val
 rw[List.length_cons,aeM,Wu _ _ _ (by simp;omega) (Nat.le_refl _)]
theorem ab5 (L:List UInt8) (k:Nat) (h:k<L.length):val (L.drop k)=((rd (L.drop k)).2.2&&val (L.drop (k+(rd (L.drop k)).2.1.toNat))):=by
 obtain⟨x,t,ht⟩:∃x t,L.drop k=x::t:=by
  cases e:L.drop k with
  |nil=>simp at e;omega
  |cons x t=>exact⟨x,t,rfl⟩
 rw[ht,sH,←ht,List.drop_drop]
theorem fF (A:Option Addr) (n cap:Nat) (L:List UInt8) (w:World) (h:aY w A n (ah L)) (hm:n≤1073741824) (hcap:n≤cap):
  Calls Tryz.prog 102 #[.slice A n cap] w fun e w'=>e=.returned (.bool (val L))∧Below w.heap.size w w':=by
 have hl:L.length=n:=by rw[←aI];exact h.1
 have HL:=hid hl
 clear hl
 have HH:=hid h
 clear h
 go_enter Tryz.func102,Tryz.ntmps102
 go_wp2
 go_loopw [3] (fun vk wr=>∃(k:Nat),k≤n∧vk=.int .i64 k∧Below w.heap.size w wr∧Hid (val (L.drop k)=val L)) (fun vk _=>n - (intOf vk).toNat)
 case atStart=>exact⟨0,Nat.zero_le _,rfl,Below.refl _ _,rfl⟩
 case round =>
  obtain⟨k,hk,rfl,hbel,HT⟩:=hrel
  by_cases hlt:k<n
  ·obtain ⟨b,off,rfl,hb,_⟩:=(HH.out).spot (by omega)
   have hcut:Hid (aY wr (some ⟨b,off+k,none⟩) (n - k) (ah (L.drop k))):=by
    rw[jl]
    exact(HH.out.cut k hk).below hbel
   have hne:¬cap=k:=by omega
   obtain⟨_,hd2,hd3⟩:=Qc L k (by rw[HL.out];exact hlt)
   have hd1:=ab5 L k (by rw[HL.out];exact hlt)
   obtain⟨R,hR⟩:∃R,R=rd (L.drop k):=⟨_,rfl⟩
   rw[←hR]at hd1 hd2 hd3
   rw[HL.out]at hd3
   have HD:=hid hd1
   have HR:=hid hR
   clear hd1 hR
   go_wp2_with fail
   refine(abl b (off+k) (n - k) (cap - k) (L.drop k) _ hcut.out (by unfold maxLen;omega) (by omega) R HR.out).mono ?_
   rintro e w1 ⟨rfl,hb1⟩
   have gW:=hbel.trans (hb1.mono hbel.size)
   clear hbel
   cases hw:R.2.2
   ·have HV:Hid (val L=false):=by
     have e:=HT.out
     rw[HD.out,hw]at e
     exact e.symm
    go_wp2
    go_ret
    rw[HV.out]
    exact⟨rfl,gW⟩
   ·have HV:Hid (val (L.drop (k+R.2.1.toNat))=val L):=by
     have e:=HT.out
     rw[HD.out,hw,Bool.true_and]at e
     exact e
    go_wp2
    go_roundw
    case rel=>exact⟨k+R.2.1.toNat,by omega,by rw[show((k+R.2.1.toNat:Nat):Int)=(k:Int)+R.2.1 by omega],gW,HV⟩
    case measure=>simp[intOf];omega
  ·obtain rfl:k=n:=by omega
   have HE:Hid (val L=true):=by
    have e:=HT.out
    rw[←HL.out,List.drop_length]at e
    exact e.symm
   go_wp2
   go_ret
   rw[HE.out]
   exact⟨rfl,hbel⟩
end Go.Proofs.YtmpeaoacaecgpaaGreatDoor.qh
