/- Texts that belong together: O1, BldF, Zw, O4, StkW, StkH, oP, ag1. -/
import Derived.Test.YtmpeaoacaecgpaaGreatDoorYAS
import Derived.Test.YtmpeaoacaecgpaaGreatDoorYAA
import Derived.Shelf.Strings.BuilderF
import Derived.Test.YtmpeaoacaecgpaaGreatDoorYAI
import Derived.Test.YtmpeaoacaecgpaaGreatDoorYAQ
import Derived.BigQuiet
import Derived.Deep.DeepCutAuto
import Derived.Test.YtmpeaoacaecgpaaGreatDoorYAK
import Derived.Deep.QuietTactic
import Derived.Test.YtmpeaoacaecgpaaGreatDoorYAR
import Derived.Test.YtmpeaoacaecgpaaGreatDoorYAE
import Derived.Lib.SlTrimSet
import Derived.Lib.SlBytesConst
import Derived.Test.YtmpeaoacaecgpaaGreatDoorYAH
set_option linter.unusedSimpArgs false
set_option linter.unusedVariables false
set_option maxRecDepth 100000
set_option maxHeartbeats 64000000
namespace Go.Proofs.YtmpeaoacaecgpaaGreatDoor.O1
open Go.RowKit Base Regs Base2 Base3 sW yu Sls NI aj7 PosC
open Go.Proofs.YtmpeaoacaecgpaaGreatDoor.pR (seg)
open Go.Proofs.YtmpeaoacaecgpaaGreatDoor.pO (Max)
def gy (h:List UInt8) (p:Value):Array Value:=#[.string ⟨#[102,105,108,101]⟩,.string ⟨#[]⟩,.string ⟨#[]⟩,.string (strOf h),.bool true,.int .i64 (-1),.bool false,.string ⟨#[]⟩,p,.bool false,.bool false,.string ⟨#[]⟩,.string ⟨#[]⟩]
def gG:Array Value:=#[.string ⟨#[]⟩,.string ⟨#[]⟩,.string ⟨#[]⟩,.string ⟨#[]⟩,.bool false,.int .i64 0,.bool false,.string ⟨#[]⟩,.slice none 0 0,.bool false,.bool false,.string ⟨#[]⟩,.string ⟨#[]⟩]
def Bx (w:World) (g:Nat) (cs:Array Value):Prop:=w.heap[g]?=some (.cells cs 25 (0,0))
variable {w w':World} {g:Nat} {cs ds:Array Value}
theorem Bx.lt (h:Bx w g cs):g<w.heap.size:=(Array.getElem?_eq_some_iff.1 h).1
theorem Bx.below (h:Bx w g cs) (hb:Below w.heap.size w w'):Bx w' g cs:=(hb.block g h.lt).trans h
theorem Bx.under {B:Nat} (h:Bx w g cs) (hb:Below B w w') (hg:g<B):Bx w' g cs:=(hb.block g hg).trans h
theorem Bx.load (h:Bx w g cs) (hs:cs.size=13):(loadVar 25 ⟨g,0,none⟩).run Tryz.prog w=.ok (.agg cs) w:=
 run_loadVar_row w g _ _ cs (0,0) _ h Tryz.underlying25 rfl (by rw[hs];kernel_rfl)
theorem Bx.path {h:List UInt8} {p:Value} (hB:Bx w g (gy h p)) (q:Value):Bx (w.setCell ⟨g,8,none⟩ q) g (gy h q):=heap_setCell_same w g 8 _ _ _ hB
theorem Bx.set {k i:Nat} (h:Bx w g cs) (x:Value) (hk:g≠k):Bx (w.setCell ⟨k,i,none⟩ x) g cs:=(heap_setCell_other w ⟨k,i,none⟩ g x hk).trans h
theorem Bx.MI {h:List UInt8} {p:Value} (hB:Bx w g (gy h p)):w.cell? ⟨g,8,none⟩=some p∧w.frozen? ⟨g,8,none⟩=false:=⟨cell_of_row w g 8 _ _ _ hB,frozen_of_row w g 8 _ _ hB⟩
theorem Bx.facts {h:List UInt8} {p:Value} (hB:Bx w g (gy h p)):w.cell? ⟨g,0,none⟩=some (.string ⟨#[102,105,108,101]⟩)∧w.cell? ⟨g,1,none⟩=some (.string ⟨#[]⟩)∧w.cell? ⟨g,2,none⟩=some (.string ⟨#[]⟩)∧w.cell? ⟨g,3,none⟩=some (.string (strOf h))∧w.cell? ⟨g,4,none⟩=some (.bool true)∧w.cell? ⟨g,5,none⟩=some (.int .i64 (-1))∧w.cell? ⟨g,6,none⟩=some (.bool false)∧w.cell? ⟨g,7,none⟩=some (.string ⟨#[]⟩)∧w.cell? ⟨g,8,none⟩=some (p)∧w.cell? ⟨g,9,none⟩=some (.bool false)∧w.cell? ⟨g,10,none⟩=some (.bool false)∧w.cell? ⟨g,11,none⟩=some (.string ⟨#[]⟩)∧w.cell? ⟨g,12,none⟩=some (.string ⟨#[]⟩):=
 ⟨cell_of_row w g 0 _ _ _ hB,cell_of_row w g 1 _ _ _ hB,cell_of_row w g 2 _ _ _ hB,cell_of_row w g 3 _ _ _ hB,cell_of_row w g 4 _ _ _ hB,cell_of_row w g 5 _ _ _ hB,cell_of_row w g 6 _ _ _ hB,cell_of_row w g 7 _ _ _ hB,cell_of_row w g 8 _ _ _ hB,cell_of_row w g 9 _ _ _ hB,cell_of_row w g 10 _ _ _ hB,cell_of_row w g 11 _ _ _ hB,cell_of_row w g 12 _ _ _ hB⟩
theorem Bx.row (h:Bx w g cs) (ds:Array Value):Bx (w.setRow g ds) g ds:=setRow_heap w g cs ds _ (0,0) h
theorem laid (w:World) (a:Array Value) (T:TypeId):(w.alloc (.cells a T)).heap[w.heap.size]?=some (.cells a T (0,0))∧Below w.heap.size w (w.alloc (.cells a T)):=
 ⟨heap_alloc_new w _,(Below.refl _ _).alloc (Nat.le_refl _) _⟩
theorem pJ {ops:Array Oper} {rest:List Oper} {o:Oper} {a:Act} {Q:Exit→Act→World→Prop} (hU:Bx w g cs) (ds:Array Value) (hs:cs.size=13) (hs2:ds.size=13) (h1:ds.all (·.oneCell')=true) (x y:Operand) (ho:o.op=.store 25 x y) (hgd:o.guard=none)
  (hx:a.eval x=.pointer (some ⟨g,0,none⟩)) (hy:a.eval y=.agg ds)
  (h:wpList Tryz.prog ops Q rest (a.put o.dst undef) (w.setRow g ds)):wpList Tryz.prog ops Q (o::rest) a w:=
 wpList_store_row hgd 25 x y ho g ds hx hy 25 cs hU (by rw[hs2];kernel_rfl) (by rw[hs,hs2]) h1 h
theorem aaU (h:List UInt8) (A:Option Addr) (n c:Nat):(gy h (.slice A n c)).all (·.oneCell')=true:=by simp[gy,Value.oneCell']
theorem VG:gG.all (·.oneCell')=true:=by simp[gG,Value.oneCell']
theorem res {fn:Func} {a b:Tmp} (h:fn.results=#[.cell a 25,.tmp b]) (hU:Bx w g cs) (hs:cs.size=13) (v:Value) (tmps:Array Value) (h2:tmps.getD a undef=.pointer (some ⟨g,0,none⟩)) (h3:tmps.getD b undef=v):
  (results fn tmps).run Tryz.prog w=.ok (.tuple #[.agg cs,v]) w:=by
 have hp':tmps[a]?.getD undef=.pointer (some ⟨g,0,none⟩):=by simpa using h2
 have hq':tmps[b]?.getD undef=v:=by simpa using h3
 simp[results,h,hp',hq',asAddr,hU.load hs]
theorem below_setRow {B:Nat} {w0:World} (h:Below B w0 w) (hg:B≤g) (ds:Array Value):Below B w0 (w.setRow g ds):=by
 refine⟨h.os,h.tape,h.output,?_,fun k hk=>(setRow_other w g k ds (by omega)).trans (h.block k hk)⟩
 simpa[World.setRow]using h.size
theorem qp {B:Nat} {w0:World} (h:Below B w0 w) (hg:B≤g) (ds:Array Value):Below B w0 (w.setRow g ds):=below_setRow h hg ds
def agG (yes no:Value) (hst:List UInt8) (w:World) (o:Option (List (List UInt8))) (e:Ending) (w':World):Prop:=Below w.heap.size w w'∧match o with
 |none=>e=.returned (.tuple #[.agg gG,no])
 |some l=>∃A n c,e=.returned (.tuple #[.agg (gy hst (.slice A n c)),yes])∧w'.ownsRow w.heap.size 9 1 (.slice A n c) n ((l.map strOf).map Value.string)
theorem UL {yes no:Value} {hst:List UInt8} {o:Option (List (List UInt8))} (ho:o=none) (hb:Below w.heap.size w w'):agG yes no hst w o (.returned (.tuple #[.agg gG,no])) w':=by
 subst ho
 exact⟨hb,rfl⟩
theorem Ku {yes no:Value} {hst:List UInt8} {o:Option (List (List UInt8))} {l:List (List UInt8)} (ho:o=some l) (hb:Below w.heap.size w w') {A:Option Addr} {n c:Nat} (hown:w'.ownsRow w.heap.size 9 1 (.slice A n c) n ((l.map strOf).map Value.string)):agG yes no hst w o (.returned (.tuple #[.agg (gy hst (.slice A n c)),yes])) w':=by
 subst ho
 exact⟨hb,A,n,c,rfl,hown⟩
theorem Jg {B n:Nat} {e:TypeId} {v x:Value} {xs:List Value} {i:Nat} (h:w.ownsRow B e 1 v n xs) (hg:g<B):(w.setCell ⟨g,i,none⟩ x).ownsRow B e 1 v n xs:=by
 refine⟨h.1,?_⟩
 rcases h.2 with hn|⟨k,cap,cur,rfl,hb,hh,rest⟩
 ·exact .inl hn
 exact .inr ⟨k,cap,cur,rfl,hb,(heap_setCell_other _ _ _ _ (show k≠g by omega)).trans hh,rest⟩
theorem DT {B n:Nat} {e:TypeId} {v:Value} {xs:List Value} (h:w.ownsRow B e 1 v n xs) (hg:g<B) (ds:Array Value):(w.setRow g ds).ownsRow B e 1 v n xs:=by
 refine⟨h.1,?_⟩
 rcases h.2 with hn|⟨k,cap,cur,rfl,hb,hh,rest⟩
 ·exact .inl hn
 exact .inr ⟨k,cap,cur,rfl,hb,(setRow_other _ _ _ _ (show k≠g by omega)).trans hh,rest⟩
def yB (w:World) (b:Nat) (l:List (List UInt8)):Prop:=w.heap[b]?=some (.cells ((l.map strOf).map Value.string).toArray 9 (0,0))
theorem yB.lt {b:Nat} {l:List (List UInt8)} (h:yB w b l):b<w.heap.size:=(Array.getElem?_eq_some_iff.1 h).1
theorem yB.cell {b:Nat} {l:List (List UInt8)} (h:yB w b l) (k:Nat) (hk:k<l.length):w.cell? ⟨b,k,none⟩=some (.string (strOf l[k])):=(cell_of_row w b k _ _ _ h).trans (by simp[hk])
theorem aiK (b:UInt8) (s:ByteArray) (w:World) (hs:s.size≤1073741824) (hM:Max w):Calls Tryz.prog 105 #[.string s,.string ⟨#[b]⟩] w fun e w'=>e=.returned (.slice (some ⟨w.heap.size,0,none⟩) (spl b s.data.toList).length (spl b s.data.toList).length)∧yB w' w.heap.size (spl b s.data.toList)∧Below w.heap.size w w':=by
 obtain⟨m,hm⟩:=hM
 refine(Tryz.strings_Split s ⟨#[b]⟩ m w (by omega) hm (Nat.le_refl _)).mono ?_
 rintro e w' ⟨rfl,rfl⟩
 have hd:=Lib.splitB_data ⟨#[b]⟩ 0 (Lib.countB s ⟨#[b]⟩) s
 rw[show(⟨#[b]⟩:ByteArray).data.toList=[b]from rfl,pO.qJ b (spl b) rfl (RI b) (JB b) _ _ (by rw[←Lib.count_one];exact Nat.le_refl _)]at hd
 have hl:=Lib.splitB_all ⟨#[b]⟩ (Nat.le_refl _) 0 _ s rfl
 generalize Lib.splitB ⟨#[b]⟩ 0 (Lib.countB s ⟨#[b]⟩) s=B at hd hl⊢
 have hB:B=(spl b s.data.toList).map strOf:=by
  rw[←hd,List.map_map]
  conv=>lhs;rw[←List.map_id B]
  exact List.map_congr_left fun x _=>(aG x).symm
 have hn:Lib.countB s ⟨#[b]⟩+1=(spl b s.data.toList).length:=by rw[←hl,hB,List.length_map]
 refine⟨by rw[hn],?_,(Below.refl _ _).alloc (Nat.le_refl _) _⟩
 unfold yB
 rw[←hB]
 exact heap_alloc_new w _
theorem one_cell (w:World) (x:Value) (T:TypeId):aY (w.alloc (.cells #[x] T)) (some ⟨w.heap.size,0,none⟩) 1 [x]:=
 aY.jF rfl (by simp) (fun j hj=>by
  simp at hj
  subst hj
  rw[Nat.zero_add,World.cell?_alloc_mark]
  rfl)
theorem Ol (s:ByteArray):∀u ∈ [Value.string s],u.oneCell'=true:=by
 intro u hu
 simp at hu
 subst hu
 rfl
def YI (L:List UInt8):Option (List (List UInt8)):=if fine L=true then some ((spl 47 (L.drop 1)).map seg)else none
theorem xA (s:ByteArray) (w:World) (hs:s.size≤900000) (hM:Max w):
  Calls Tryz.prog 93 #[.string s] w (agG (.int .i64 0) (.int .i64 2) [] w (YI s.data.toList)):=by
 have hl:s.data.toList.length=s.size:=Array.length_toList
 obtain⟨b,hb⟩:∃b,b=fine s.data.toList:=⟨_,rfl⟩
 obtain⟨l,hll⟩:∃l,l=spl 47 (s.data.toList.drop 1):=⟨_,rfl⟩
 obtain⟨O,hO⟩:∃O,O=YI s.data.toList:=⟨_,rfl⟩
 rw[←hO]
 have HO:Hid (O=if b=true then some (l.map seg)else none):=by show _=_;rw[hO,hb,hll];rfl
 have hlen2:l.length≤s.size+1:=by rw[hll];have:=kD 47 (s.data.toList.drop 1);rw[List.length_drop,hl]at this;omega
 have hxl:∀x ∈ l,x.length≤s.size:=by
  intro x hx
  rw[hll]at hx
  have:=AO 47 _ x hx
  rw[List.length_drop,hl]at this
  omega
 have hpos:b=true→1≤s.size:=by
  intro h
  rw[hb,aal]at h
  rw[←hl]
  cases e:s.data.toList with
  |nil=>rw[e]at h;exact absurd h.2.1 (by decide)
  |cons a t=>simp
 have WC:Hid (∀w:World,Max w→Calls Tryz.prog 42 #[.string s] w fun e w'=>e=.returned (.bool b)∧Below w.heap.size w w'):=fun w h=>by rw[hb];exact oW s w (by omega) h
 have wC:Hid (∀w:World,Max w→Calls Tryz.prog 105 #[.string (s.extract 1 s.size),.string ⟨#[47]⟩] w fun e w'=>e=.returned (.slice (some ⟨w.heap.size,0,none⟩) l.length l.length)∧yB w' w.heap.size l∧Below w.heap.size w w'):=fun w h=>by rw[hll,←ext1];exact aiK 47 _ w (by have:=ext1_size s;omega) h
 have HPO:=hid hpos
 have HM:=hid hM
 have HXL:=hid hxl
 obtain⟨i0,hi,hz0,hz1,hz2⟩:=info_parts pq
 obtain⟨n,hn⟩:∃n,n=l.length:=⟨_,rfl⟩
 have HN:=hid hn
 rw[←hn]at wC hlen2
 have hn9:n≤900001:=by omega
 clear hb hll hO hl hxl hpos hlen2 hM hn
 go_enter Tryz.func93,Tryz.ntmps93
 go_upto_region 1 with(fail)
 generalize hw:World.alloc w _=w1
 have h1:Bx w1 w.heap.size (gG)∧Below w.heap.size w w1:=by
  subst hw
  exact laid w _ _
 clear hw
 have kP:=hid h1.1
 have HB1:=hid h1.2
 clear h1
 go_wp2_with fail
 refine(WC.out _ (HM.out.below HB1.out)).mono ?_
 rintro e w2 ⟨rfl,hb2⟩
 have gY:=hid (kP.out.below hb2)
 have HB2:=hid (bel HB1.out hb2)
 clear kP HB1 hb2
 cases b with
 |false=>
  have HF:Hid (O=none):=by show _=_;rw[HO.out];rfl
  go_wp2_with (refine pJ gY.out gG rfl rfl VG (.tmp 2) (.tmp 10) rfl rfl rfl rfl ?_)
  try simp only[Exit.inBlock,Exit.then]
  exact bodyPost_ret (w:=World.setRow w2 w.heap.size gG) (res rfl (gY.out.row gG) rfl (.int .i64 2) _ rfl rfl) rfl (UL HF.out (qp HB2.out (Nat.le_refl _) gG))
 | true=>
  have HF:Hid (O=some (l.map seg)):=by show _=_;rw[HO.out];rfl
  have h0i:(1:Int)≤(s.size:Int):=by have:=HPO.out rfl;omega
  go_upto_region 4 with(fail)
  generalize hw:World.alloc w2 _=w3
  have h1:Bx w3 w2.heap.size (gy [] (.slice none 0 0))∧Below w2.heap.size w2 w3:=by
   subst hw
   exact laid w2 _ _
  clear hw
  have jI:=hid (gY.out.below h1.2)
  have HU3:=hid h1.1
  have HB3:=hid (bel HB2.out h1.2)
  have HG:Hid (w.heap.size<w2.heap.size):=gY.out.lt
  have HG3:Hid (w2.heap.size<w3.heap.size):=HU3.out.lt
  clear h1
  go_wp2_with fail
  refine(wC.out _ (HM.out.below HB3.out)).mono ?_
  rintro e w4 ⟨rfl,hrow,hb4⟩
  have JQ:=hid (jI.out.below hb4)
  have HU4:=hid (HU3.out.below hb4)
  have HB4:=hid (bel HB3.out hb4)
  have HR4:=hid hrow
  have HG4:Hid (w3.heap.size<w4.heap.size):=hrow.lt
  obtain⟨gu,hgu⟩:∃gu,gu=w2.heap.size:=⟨_,rfl⟩
  obtain⟨gr,hgr⟩:∃gr,gr=w3.heap.size:=⟨_,rfl⟩
  rw[←hgr]at HG3 HG4 HR4⊢
  rw[←hgu]at HG HG3 HU4⊢
  clear hrow hb4 jI HU3 HB3 gY HB2 hgu hgr
  go_wp2
  go_loopw [6,16] (fun _ vk wr=>∃(k:Nat) (A:Option Addr) (c:Nat),k≤n∧vk=.int .i64 (k:Int)∧Hid (wr.ownsRow w4.heap.size 9 1 (.slice A k c) k ((((l.take k).map seg).map strOf).map Value.string))∧Hid (Bx wr gu (gy [] (.slice A k c)))∧Hid (Bx wr w.heap.size gG)∧Hid (yB wr gr l)∧Hid (Below w.heap.size w wr)∧w4.heap.size≤wr.heap.size) (fun _ vk _=>n - (intOf vk).toNat)
  case atStart=>exact⟨0,none,0,Nat.zero_le _,rfl,World.ownsRow_nil _ _ _ _,HU4.out,JQ.out,HR4.out,HB4.out,Nat.le_refl _⟩
  case round=>
   clear HU4 JQ HR4 HB4
   obtain⟨k,A,c,hk,rfl,HOW,HU,HX,HR,HB,hsz⟩:=hrel
   have MC:=hid hsz
   by_cases hlt:k<n
   ·obtain⟨x,hxd⟩:∃x,x=l[k]'(by rw[←HN.out];exact hlt):=⟨_,rfl⟩
    have hc:=HR.out.cell k (by rw[←HN.out];exact hlt)
    rw[←hxd]at hc
    have hxs:x.length≤900000:=by rw[hxd];have:=HXL.out _ (List.getElem_mem (l:=l) (n:=k) (by rw[←HN.out];exact hlt));omega
    obtain⟨sx,hsx⟩:∃sx,sx=strOf (seg x):=⟨_,rfl⟩
    have HSG:Hid (∀w:World,Calls Tryz.prog 199 #[.string (strOf x)] w fun e w'=>e=.returned (.string sx)∧Below w.heap.size w w'):=fun w=>by rw[hsx];exact Ec (strOf x) w (by rw[size_strOf];omega)
    obtain⟨R,BR⟩:∃R,R=(((l.take k).map seg).map strOf).map Value.string:=⟨_,rfl⟩
    rw[←BR]at HOW
    have HR2:Hid ((((l.take (k+1)).map seg).map strOf).map Value.string=R++[Value.string sx]):=by
     show _=_
     rw[take_snoc l k (by rw[←HN.out];exact hlt),←hxd,List.map_append,List.map_append,List.map_append,←BR,hsx]
     rfl
    clear hxd hxs hsx BR
    go_upto_region 7 with(fail)
    refine bC (by kernel_rfl) 5 [is (.pointer (some ⟨gu,8,none⟩)),is (.slice A k c),is (.string (strOf x)),is (.string sx),row 1 [.string sx]] [[],[0],[],[2],[2,3],[0,1,2,3,4]] (by kernel_rfl) ?_ ?_
    ·refine⟨?_,?_,?_,?_,?_,trivial⟩
     all_goals(intro t wq hbq hh K hK;simp only[filled,aj,upd,Have,is,any,row,pick,Act.put,List.setIfInBounds_toArray,List.set_cons_zero,List.set_cons_succ,Nat.reduceAdd,Nat.reduceEqDiff,reduceIte,List.tail_cons,List.headD_cons]at hh hK⊢;(try simp only[hh]at hK⊢);try clear hh)
     ·go_simp;exact hK _ _ (Below.refl _ _) rfl
     ·have hc8:=(HU.out.below hbq).MI.1;go_simp;exact hK _ _ (Below.refl _ _) rfl
     ·go_simp;exact hK _ _ (Below.refl _ _) rfl
     ·go_simp;refine(HSG.out _).mono ?_;rintro e w9 ⟨rfl,mG⟩;exact hK _ _ mG rfl
     ·go_simp;exact hK _ _ ((Below.refl _ _).alloc (Nat.le_refl _) _) ⟨_,_,rfl,Nat.le_refl _,by decide,one_cell _ _ _⟩
    ·intro t wq hbq hh
     have f1:=aB hh 1 (by decide)
     simp only[pick]at f1
     replace f1:t 1=(.slice A k c):=f1
     have f4:=aB hh 4 (by decide)
     simp only[pick]at f4
     clear hh
     simp only[filled,aj,upd,Have,is,any,row,pick,Act.put,List.setIfInBounds_toArray,List.set_cons_zero,List.set_cons_succ,Nat.reduceAdd,Nat.reduceEqDiff,reduceIte]
     obtain⟨A4,c4,f4,hc4,hm4,hr4⟩:=f4
     simp only[f1,f4]
     have MR:=aP HOW.out hbq
     have HUq:=hid (HU.out.below hbq)
     have HXq:=hid (HX.out.below hbq)
     have HRq:=hid ((hbq.block gr HR.out.lt).trans HR.out:yB wq gr l)
     have Et:=hid (bel HB.out hbq)
     have Qx:w4.heap.size≤wq.heap.size:=Nat.le_trans hsz hbq.size
     have hrefl:Below w4.heap.size wq wq:=Below.refl _ _
     refine dH rfl _ _ 23 rfl w4.heap.size 9 i0 (.string ByteArray.empty) 16 Tryz.underlying23 hi hz0 hz1 hz2 rfl _ k R rfl MR hrefl Qx A4 1 c4 [.string sx] rfl hr4 (Ol _) (by unfold maxLen;omega) (by omega) ?_
     intro v7 w7 dU dA
     obtain⟨A7,c7,rfl,hc7,hm7,hr7⟩:=aJ dU
     have hG1:=HG.out
     have hG2:=HG3.out
     have hG3:=HG4.out
     have hU7:=HUq.out.under dA (by omega)
     have hX7:=HXq.out.under dA (by omega)
     have hR7:yB w7 gr l:=(dA.block gr (by omega)).trans HRq.out
     have hB7:Below w.heap.size w w7:=Et.out.trans (dA.mono (by omega))
     have hs7:w4.heap.size≤w7.heap.size:=Nat.le_trans Qx dA.size
     obtain⟨KL,Vm⟩:=hU7.MI
     have ajI:Hid ((w7.setCell ⟨gu,8,none⟩ (.slice A7 (k+1) c7)).ownsRow w4.heap.size 9 1 (.slice A7 (k+1) c7) (k+1) ((((l.take (k+1)).map seg).map strOf).map Value.string)):=by show World.ownsRow _ _ _ _ _ _ _;rw[HR2.out];exact Jg dU (by omega)
     have HU8:=hid (hU7.path (.slice A7 (k+1) c7))
     have HX8:=hid (hX7.set (k:=gu) (i:=8) (.slice A7 (k+1) c7) (by omega))
     have HR8:=hid ((heap_setCell_other w7 ⟨gu,8,none⟩ gr (.slice A7 (k+1) c7) (show gr≠gu by omega)).trans hR7:yB _ gr l)
     have H7:=hid (hB7.setCell (p:=⟨gu,8,none⟩) (by show _≤gu;omega) (.slice A7 (k+1) c7))
     have hs8:w4.heap.size≤(w7.setCell ⟨gu,8,none⟩ (.slice A7 (k+1) c7)).heap.size:=by simpa using hs7
     clear dU dA hr7 hU7 hX7 hR7 hB7 MR hrefl Qx hG1 hG2 hG3 hm7 hc7 hs7
     go_wp2
     go_roundw
     case rel=>exact⟨k+1,A7,c7,by omega,by go_num,ajI,HU8,HX8,HR8,H7,hs8⟩
     case measure=>simp[intOf];omega
   ·obtain rfl:k=n:=by omega
    have HE:Hid ((l.take k).map seg=l.map seg):=by show _=_;rw[List.take_of_length_le (by rw[HN.out];exact Nat.le_refl _)]
    obtain⟨d0,d1,d2,d3,d4,d5,d6,d7,d8,d9,d10,d11,d12⟩:=HU.out.facts
    go_wp2_with (refine pJ HX.out (gy [] (.slice A k c)) rfl rfl (aaU _ _ _ _) (.tmp 2) (.tmp 28) rfl rfl rfl rfl ?_)
    try simp only[Exit.inBlock,Exit.then]
    have how:=HOW.out
    rw[HE.out]at how
    have hG:w.heap.size<w4.heap.size:=by have h1:=HG.out;have h2:=HG3.out;have h3:=HG4.out;omega
    exact bodyPost_ret (w:=World.setRow wr w.heap.size (gy [] (.slice A k c))) (res rfl (HX.out.row _) rfl (.int .i64 0) _ rfl rfl) rfl (Ku HF.out (qp HB.out (Nat.le_refl _) _) (ay (DT how hG _) (by omega)))
end Go.Proofs.YtmpeaoacaecgpaaGreatDoor.O1
namespace Go.Proofs.YtmpeaoacaecgpaaGreatDoor.BldF
open Go.RowKit Base Base2 Wx agI
abbrev IsF (B b:Nat) (l:List UInt8) (w:World):Prop:=Lib.IsBuilderF 147 5 B b (Lib.byteCells l) w
theorem QB {B b:Nat} {l:List UInt8} {w:World} (h:lq B b l w):IsF B b l w:=Lib.IsBuilderF.of h
theorem MZ {w w':World} {base n size:Nat} {e:TypeId} {v:Value} {xs:List Value} (h:w.ownsRowF base e size v n xs) (hb:Below w.heap.size w w'):w'.ownsRowF base e size v n xs:=by
 refine⟨h.1,?_⟩
 rcases h.2 with hn|⟨g,cap,cur,fz,rfl,hg,hh,rest⟩
 ·exact .inl hn
 exact .inr ⟨g,cap,cur,fz,rfl,hg,(hb.block g (Array.getElem?_eq_some_iff.1 hh).1).trans hh,rest⟩
theorem yL {B b:Nat} {l:List UInt8} {w w':World} (h:IsF B b l w) (hb:Below w.heap.size w w'):IsF B b l w':=by
 rcases h with⟨h1,v,h2,h3,h4⟩|⟨h1,v,h2,h3,h4⟩
 ·exact Or.inl ⟨h1,v,(hb.block _ (Array.getElem?_eq_some_iff.1 h2).1).trans h2,MZ h3 hb,h4⟩
 exact Or.inr ⟨h1,v,(hb.block _ (Array.getElem?_eq_some_iff.1 h2).1).trans h2,MZ h3 hb,h4⟩
theorem iZ (B b:Nat) (l:List UInt8) (w:World) (h:IsF B b l w) (hBw:B≤w.heap.size):
  Calls Tryz.prog 155 #[.pointer (some ⟨b,0,none⟩)] w fun e w'=>e=.returned (.string (strOf l))∧IsF B b l w'∧Below B w w':=Any.Builder_String_any_f Tryz.l169 Tryz.Builder_Extra_169 B b l w h hBw
end Go.Proofs.YtmpeaoacaecgpaaGreatDoor.BldF
namespace Go.Proofs.YtmpeaoacaecgpaaGreatDoor.Zw
open Go.RowKit Base Base2 sW yu Sls Wx agI BldF
open Go.Proofs.YtmpeaoacaecgpaaGreatDoor.pO (Max)
open Go.Proofs.YtmpeaoacaecgpaaGreatDoor.aZ (aO fM AV pK)
def DN (l:List ByteArray):List UInt8:=l.flatMap fun s=>47::fU.dec s.data.toList
def xJ (l:List ByteArray):Bool:=l.all fun s=> !(fU.dec s.data.toList).contains 47
def ET (l:List ByteArray):Option (List UInt8):=if xJ l=true∧fine (DN l)=true then some (DN l)else none
def FIL:List UInt8:=[102,105,108,101]
def wZ (au hst:List UInt8) (b6:Bool) (l:List ByteArray):List UInt8×Int:=
 if au≠FIL∨b6=true then([],2)else if hst≠[]then([],8)else match ET l with
 |none=>([],2)
 |some o=>(o,0)
theorem tl (s:ByteArray):s.toList=s.data.toList:=Lib.toList_data s
theorem ah0 (l:List ByteArray) (s:ByteArray):DN (l++[s])=DN l++(47::fU.dec s.data.toList):=by simp[DN]
theorem aaV (l:List ByteArray):(DN l).length≤(aO l).length:=by
 induction l with
 |nil=>exact Nat.le_refl _
 |cons a l ih=>
  have h:=fU.ku a.data.toList
  have e1:DN (a::l)=(47::fU.dec a.data.toList)++DN l:=rfl
  have e2:aO (a::l)=(47::a.data.toList)++aO l:=rfl
  rw[e1,e2,List.length_append,List.length_append,List.length_cons,List.length_cons]
  omega
theorem take_snoc (l:List ByteArray) (k:Nat) (h:k<l.length):l.take (k+1)=l.take k++[l[k]]:=List.take_succ_eq_append_getElem h
theorem ahD (l:List ByteArray) (k:Nat) (h:k<l.length):xJ (l.take (k+1))=(xJ (l.take k)&& !(fU.dec l[k].data.toList).contains 47):=by
 unfold xJ
 rw[take_snoc l k h,List.all_append]
 simp
theorem free_no {l:List ByteArray} (k:Nat) (h:k<l.length) (hc:(fU.dec l[k].data.toList).contains 47=true):xJ l=false:=by
 cases e:xJ l with
 |false=>rfl
 |true=>
  have h1:=List.all_eq_true.1 e _ (List.getElem_mem h)
  rw[hc]at h1
  cases h1
theorem DU (s0 s1 s2 s3 : ByteArray) (b4 : Bool) (z5 : Int) (b6 : Bool) (s7 : ByteArray) (A : Option Addr) (n cap : Nat) (l : List ByteArray) (b9 b10 : Bool) (s11 s12 : ByteArray) (w : World) (hR : aY w A n (l.map Value.string)) (hnc : n ≤ cap) (hcm : cap ≤ maxLen) (hl : (aO l).length ≤ 899999) (hM : Max w) :
  Calls Tryz.prog 96 #[.agg #[.string s0,.string s1,.string s2,.string s3,.bool b4,.int .i64 z5,.bool b6,.string s7,.slice A n cap,.bool b9,.bool b10,.string s11,.string s12]] w fun e w'=>e=.returned (.tuple #[.string (strOf (wZ s0.data.toList s3.data.toList b6 l).1),.int .i64 (wZ s0.data.toList s3.data.toList b6 l).2])∧Below w.heap.size w w':=by
 have hn:l.length=n:=by rw[←hR.1,List.length_map]
 have hpl:=fM l
 unfold maxLen at hcm
 obtain⟨V,hV⟩:∃V,V=wZ s0.data.toList s3.data.toList b6 l:=⟨_,rfl⟩
 rw[←hV]
 by_cases e0:s0.data.toList=FIL
 ·have q0:(s0.toList==[102,105,108,101])=true:=by rw[tl,e0];rfl
  cases b6 with
  |true=>
   have HV:Hid (V=([],2)):=by show _=_;rw[hV];unfold wZ;rw[if_pos (.inr rfl)]
   clear hn hpl hR hl hV e0
   go_enter Tryz.func96,Tryz.ntmps96
   go_wp2
   go_ret2
   exact⟨by rw[HV.out];first|done|rfl,(Below.refl _ _).alloc (Nat.le_refl _) _⟩
  | false=>
   by_cases e3:s3.data.toList=[]
   ·have q3:s3.toList=[]:=by rw[tl];exact e3
    have HV0:Hid (V=match ET l with
     |none=>([],2)
     |some o=>(o,0)):=by show _=_;rw[hV];unfold wZ;rw[if_neg (by rintro(h|h);exact h e0;cases h),if_neg (fun h=>h e3)]
    have HR:=hid hR
    have HN:=hid hn
    have vW:=hid hpl
    have Ci:=hid hl
    have HM:=hid hM
    clear hR hn hpl hl hV hM e0 e3
    go_enter Tryz.func96,Tryz.ntmps96
    go_wp2
    generalize hw1:w.alloc _=w1
    have hb1:Below w.heap.size w w1:=by rw[←hw1];exact(Below.refl _ _).alloc (Nat.le_refl _) _
    have hs1:w1.heap.size=w.heap.size+1:=by rw[←hw1];simp
    clear hw1
    have HB0:Hid (lq (w.heap.size+1) (w.heap.size+1) [] (w1.alloc (.cells #[.pointer none,.slice none 0 0] 147))):=by
     have h:=Lib.fresh_isBuilder 147 5 w1
     rw[hs1]at h
     exact h
    go_loopw [6,7,21] (fun _ _ vk wr=>∃k:Nat,k≤n∧vk=.int .i64 (k:Int)∧Hid (lq (w.heap.size+1) (w.heap.size+1) (DN (l.take k)) wr)∧Hid (Below (w.heap.size+1) w1 wr)∧Hid (xJ (l.take k)=true)) (fun _ _ vk _=>n - (intOf vk).toNat)
    case atStart=>exact⟨0,Nat.zero_le _,rfl,HB0.out,(Below.refl _ _).alloc (by rw[hs1];exact Nat.le_refl _) _,rfl⟩
    case round=>
     clear HB0
     obtain⟨k,hk,rfl,HB,HBL,HF⟩:=hrel
     have hsz:w.heap.size+1≤wr.heap.size:=by have:=HBL.out.size;rw[hs1]at this;exact this
     by_cases hlt:k<n
     ·have hkl:k<l.length:=by rw[HN.out];exact hlt
      have hRr:=HR.out.below (hb1.trans (HBL.out.mono (by omega)))
      obtain⟨g,off,rfl,hg,hcell⟩:=hRr.spot (by omega)
      have hc:=hcell k (by rw[List.length_map];exact hkl)
      rw[List.getElem_map]at hc
      obtain⟨s,hs⟩:∃s,s=l[k]:=⟨_,rfl⟩
      rw[←hs]at hc
      obtain⟨D,hD⟩:∃D,D=fU.dec s.data.toList:=⟨_,rfl⟩
      have hDl:D.length≤s.size:=by rw[hD];have:=fU.ku s.data.toList;rwa[show s.data.toList.length=s.size from Array.length_toList]at this
      have HS:Hid (DN (l.take (k+1))=DN (l.take k)++(47::D)):=by show _=_;rw[take_snoc l k hkl,ah0,←hs,hD]
      have hsum:=AV l k hkl
      have IY:=pK l (k+1)
      have hpk:=aaV (l.take k)
      rw[fM,List.length_take,Nat.min_eq_left (by omega)]at hpk
      have hpl:=vW.out
      have hll:=Ci.out
      rw[←hs]at hsum
      have hss:s.size≤899999:=by omega
      have Y6:Hid (∀w:World,Calls Tryz.prog 72 #[.string s] w fun e w'=>∃v,e=.returned v∧w'.ownsRow w.heap.size 5 1 v D.length (ah D)∧Below w.heap.size w w'):=fun w=>by rw[hD];exact fU.decode_any s w (by omega)
      obtain⟨q,hq⟩:∃q,q=D.contains 47:=⟨_,rfl⟩
      have HCT:Hid (∀w:World,Calls Tryz.prog 104 #[.string (strOf D),.string ⟨#[47]⟩] w fun e w'=>e=.returned (.bool q)∧w=w'):=fun w=>by rw[hq];exact FN 47 (strOf D) w
      have a1:∀w:World,(Op.stringOp .add ⟨#[47]⟩ (strOf D)).run Tryz.prog w=.ok (.string (strOf (47::D))) w:=fun w=>dL ⟨#[47]⟩ (strOf D) w (by rw[size_strOf];show 1+D.length≤_;omega)
      have HLEN:Hid ((DN (l.take k)).length+(1+D.length)≤140737488355328):=by show _≤_;omega
      have hqf:q=true→ET l=none:=fun h=>by
       have:=free_no k hkl (by rw[←hs,←hD,←hq];exact h)
       unfold ET
       rw[this,if_neg (fun h=>by cases h.1)]
      have hqn:q=false→xJ (l.take (k+1))=true:=fun h=>by rw[ahD l k hkl,HF.out,←hs,←hD,←hq,h];rfl
      have HQF:=hid hqf
      have HQN:=hid hqn
      clear hs hD hq hsum IY hpk hpl hll hRr hcell hkl hqf hqn hDl
      go_wp2_with fail
      refine(Y6.out _).mono ?_
      rintro e w3 ⟨v3,rfl,hown,hb3⟩
      obtain⟨A3,c3,rfl,hc3,hm3,hr3⟩:=aJ hown
      have hst:=aF 45 9 5 Tryz.underlying45 Tryz.underlying5 Tryz.underlying9 _ c3 hr3
      have adM:=fun k=>aF 45 9 5 Tryz.underlying45 Tryz.underlying5 Tryz.underlying9 _ c3 (Eu hr3 k)
      have HB3:=hid (gZ HB.out hb3)
      have mP:Hid (Below (w.heap.size+1) w1 w3):=HBL.out.trans (hb3.mono hsz)
      clear hown hb3 hr3 hm3 hc3
      go_wp2_with fail
      refine(HCT.out _).mono ?_
      rintro e w4 ⟨rfl,hw4⟩
      subst hw4
      clear hst adM
      cases q with
      |true=>
       have J4:Hid (V=([],2)):=by show _=_;rw[HV0.out,HQF.out rfl]
       go_wp2
       go_ret2
       exact⟨by rw[J4.out];first|done|rfl,hb1.trans (mP.out.mono (by omega))⟩
      |false=>
       have HFN:=hid (HQN.out rfl)
       have hsz3:w.heap.size+1≤w3.heap.size:=by have:=mP.out.size;rw[hs1]at this;exact this
       go_wp2_with fail
       refine(write_any _ _ _ _ _ HB3.out (by rw[size_strOf];have:=HLEN.out;simp at this⊢;omega) hsz3).mono ?_
       rintro e w5 ⟨rfl,hB5,hb5⟩
       have iG:Hid (lq (w.heap.size+1) (w.heap.size+1) (DN (l.take (k+1))) w5):=by show lq _ _ _ _;rw[HS.out];exact hB5
       have xZ:=hid (mP.out.trans hb5)
       clear hB5 hb5
       go_wp2
       go_roundw
       case rel=>exact⟨k+1,by omega,by go_num,iG,xZ,HFN⟩
       case measure=>simp[intOf];omega
     ·obtain rfl:k=n:=by omega
      have hT:l.take k=l:=List.take_of_length_le (by rw[HN.out];exact Nat.le_refl _)
      rw[hT]at HB HF
      have hol:(DN l).length≤899999:=by have h1:=aaV l;have h2:=Ci.out;omega
      obtain⟨O,hO⟩:∃O,O=DN l:=⟨_,rfl⟩
      rw[←hO]at HB hol
      obtain⟨f,hf⟩:∃f,f=fine O:=⟨_,rfl⟩
      have WC:Hid (∀w:World,Max w→Calls Tryz.prog 42 #[.string (strOf O)] w fun e w'=>e=.returned (.bool f)∧Below w.heap.size w w'):=fun w h=>by rw[hf];exact aj7.oW (strOf O) w (by rw[size_strOf];omega) h
      have HVE:Hid (V=if f=true then(O,0)else([],2)):=by
       show _=_
       rw[HV0.out]
       unfold ET
       rw[←hO,←hf]
       cases f with
       |true=>rw[if_pos ⟨HF.out,rfl⟩,if_pos rfl]
       |false=>rw[if_neg (fun h=>by cases h.2),if_neg (by decide)]
      clear hT hO hf hol
      go_wp2_with fail
      refine(iZ _ _ _ _ (QB HB.out) hsz).mono ?_
      rintro e w3 ⟨rfl,hBS,hb3⟩
      have HBS:=hid hBS
      clear hBS
      have mP:=hid (HBL.out.trans hb3)
      have NU:Hid (Below w.heap.size w w3):=hb1.trans (mP.out.mono (by omega))
      go_wp2_with fail
      refine(WC.out _ (HM.out.below NU.out)).mono ?_
      rintro e w4 ⟨rfl,hb4⟩
      have H9:=hid (bel NU.out hb4)
      cases f with
      |false=>
       have J4:Hid (V=([],2)):=by show _=_;rw[HVE.out];rfl
       clear hb3 hb4 HBS
       go_wp2
       go_ret2
       exact⟨by rw[J4.out];first|done|rfl,H9.out⟩
      |true=>
       have J4:Hid (V=(O,0)):=by show _=_;rw[HVE.out];rfl
       have HB4:Hid (IsF (w.heap.size+1) (w.heap.size+1) O w4):=yL HBS.out hb4
       have Ae:w.heap.size+1≤w4.heap.size:=by have h1:=mP.out.size;have h2:=hb4.size;rw[hs1]at h1;omega
       clear hb4
       go_wp2_with fail
       refine(iZ _ _ _ _ HB4.out Ae).mono ?_
       rintro e w5 ⟨rfl,_,hb5⟩
       have WB:Hid (Below w.heap.size w w5):=H9.out.trans (hb5.mono (by omega))
       clear hb5
       go_wp2
       go_ret2
       exact⟨by rw[J4.out];first|done|rfl,WB.out⟩
   ·have q3:(s3.toList==[])=false:=by rw[tl,beq_eq_false_iff_ne];exact e3
    have q3':s3.toList.isEmpty=false:=by rw[tl];simpa using e3
    have HV:Hid (V=([],8)):=by show _=_;rw[hV];unfold wZ;rw[if_neg (by rintro(h|h);exact h e0;cases h),if_pos e3]
    clear hn hpl hR hl hV e0 e3
    go_enter Tryz.func96,Tryz.ntmps96
    go_wp2
    go_ret2
    exact⟨by rw[HV.out];first|done|rfl,(Below.refl _ _).alloc (Nat.le_refl _) _⟩
 ·have q0:(s0.toList==[102,105,108,101])=false:=by rw[tl,beq_eq_false_iff_ne];exact e0
  have HV:Hid (V=([],2)):=by show _=_;rw[hV];unfold wZ;rw[if_pos (.inl e0)]
  clear hn hpl hR hl hV e0
  go_enter Tryz.func96,Tryz.ntmps96
  go_wp2
  go_ret2
  exact⟨by rw[HV.out];first|done|rfl,(Below.refl _ _).alloc (Nat.le_refl _) _⟩
end Go.Proofs.YtmpeaoacaecgpaaGreatDoor.Zw
namespace Go.Proofs.YtmpeaoacaecgpaaGreatDoor.O4
open Go.RowKit Base Base2 sW yu O1 Zw
open Go.Proofs.YtmpeaoacaecgpaaGreatDoor.pR (seg)
open Go.Proofs.YtmpeaoacaecgpaaGreatDoor.pO (Max)
structure Pt (w:World) (l:List (List UInt8)) (A:Option Addr) (n c:Nat):Prop where
 zB:aY w A n ((l.map strOf).map Value.string)
 nc:n≤c
 cm:c≤maxLen
theorem Pt.of {w:World} {l:List (List UInt8)} {B n:Nat} {A:Option Addr} {c:Nat} (h:w.ownsRow B 9 1 (.slice A n c) n ((l.map strOf).map Value.string)):Pt w l A n c:=by
 obtain⟨A',c',e,h1,h2,h3⟩:=aJ h
 cases e
 exact⟨h3,h1,h2⟩
structure Env (w:World):Prop where
 pow:Tab.Pow w
 max:Max w
theorem Env.below {w w':World} (h:Env w) (hb:Below w.heap.size w w'):Env w':=⟨Tab.Pow.below h.pow hb,h.max.below hb⟩
theorem SI {T:ByteArray} (ho:YI T.data.toList=none) (hs:T.size≤900000) (w:World) (E:Env w):Calls Tryz.prog 93 #[.string T] w fun e w'=>e=.returned (.tuple #[.agg #[.string ⟨#[]⟩,.string ⟨#[]⟩,.string ⟨#[]⟩,.string ⟨#[]⟩,.bool false,.int .i64 0,.bool false,.string ⟨#[]⟩,.slice none 0 0,.bool false,.bool false,.string ⟨#[]⟩,.string ⟨#[]⟩],.int .i64 2])∧Below w.heap.size w w':=
 (xA T w hs E.max).mono fun e w' h=>by
  rw[ho]at h
  exact⟨h.2,h.1⟩
def DZ (h:List UInt8) (l:List (List UInt8)):List UInt8:=aZ.Ar ⟨#[102,105,108,101]⟩ ⟨#[]⟩ ⟨#[]⟩ (strOf h) true (-1) false ⟨#[]⟩ (l.map strOf) false false ⟨#[]⟩ ⟨#[]⟩
theorem Yd (h:List UInt8) (hh:h.length≤1000000) (l:List (List UInt8)) (A:Option Addr) (n c:Nat) (w:World) (hP:Pt w l A n c) (hl:(aZ.aO (l.map strOf)).length≤1073741824) (E:Env w):Calls Tryz.prog 46 #[.agg #[.string ⟨#[102,105,108,101]⟩,.string ⟨#[]⟩,.string ⟨#[]⟩,.string (strOf h),.bool true,.int .i64 (-1),.bool false,.string ⟨#[]⟩,.slice A n c,.bool false,.bool false,.string ⟨#[]⟩,.string ⟨#[]⟩]] w fun e w'=>e=.returned (.string (strOf (DZ h l)))∧Below w.heap.size w w':=
 Pg.print_any ⟨#[102,105,108,101]⟩ ⟨#[]⟩ ⟨#[]⟩ (strOf h) true (-1) false ⟨#[]⟩ A n c (l.map strOf) false false ⟨#[]⟩ ⟨#[]⟩ w hP.zB hP.nc hP.cm (by decide) (by decide) (by decide) (by rw[size_strOf];omega) (by decide) (by decide) (by decide) (by decide) (by decide) hl E.pow
end Go.Proofs.YtmpeaoacaecgpaaGreatDoor.O4
namespace Go.Proofs.YtmpeaoacaecgpaaGreatDoor.StkW
open Go.RowKit Base Base2 O1 O4 ES TL TK agZ
theorem anP (T:ByteArray) (l:List (List UInt8)) (ho:YI T.data.toList=some l) (hs:T.size≤900000) (hl:(aZ.aO (l.map strOf)).length≤1073741824) (w:World) (E:Env w):Calls Tryz.prog 38 #[.int .i64 0,.string T] w fun e w'=>e=.returned (.tuple #[.string (strOf (DZ [] l)),.int .i64 0])∧Below w.heap.size w w':=by
 have HE:=hid E
 clear E
 go_enter Tryz.func38,Tryz.ntmps38
 go_upto_region 2 with(fail)
 generalize bI:World.alloc w _=v1
 have h1_:Bx v1 w.heap.size gG∧Below w.heap.size w v1:=by
  subst bI
  exact laid w _ _
 clear bI
 have Tj:=hid h1_.1
 have HB1:=hid h1_.2
 clear h1_
 go_wp2_with fail
 refine(xA T _ hs (HE.out.below HB1.out).max).mono ?_
 intro e v2 hx
 rw[ho]at hx
 obtain⟨hb2,A,n,c,rfl,hown⟩:=hx
 have XU2:=hid (Tj.out.below hb2)
 have jy:=hid hown
 have HB2:=hid (bel HB1.out hb2)
 have sQ:Hid (w.heap.size<v1.heap.size):=Tj.out.lt
 clear Tj HB1 hown hb2
 rw[show Value.agg (gy [] (.slice A n c))=.agg #[.string ⟨#[102,105,108,101]⟩,.string ⟨#[]⟩,.string ⟨#[]⟩,.string (strOf []),.bool true,.int .i64 (-1),.bool false,.string ⟨#[]⟩,.slice A n c,.bool false,.bool false,.string ⟨#[]⟩,.string ⟨#[]⟩]from rfl]
 go_upto_region 7 with(refine pJ XU2.out (gy [] (.slice A n c)) rfl rfl (aaU _ _ _ _) (.tmp 6) (.tmp 15) rfl rfl rfl rfl ?_)
 have hx:=XU2.out.row (gy [] (.slice A n c))
 have hb:=below_setRow HB2.out (Nat.le_refl _) (gy [] (.slice A n c))
 have hp:Pt (World.setRow v2 w.heap.size (gy [] (.slice A n c))) l A n c:=Pt.of (DT jy.out sQ.out _)
 generalize World.setRow v2 _ _=v3 at hx hb hp⊢
 have ZG:=hid hx
 have HB3:=hid hb
 have Zb:=hid hp
 have Fg:=hid (hx.load rfl)
 clear hx hb hp XU2 jy HB2
 go_wp2_with (refine fJ Fg.out (.tmp 6) rfl rfl rfl ?_)
 refine(Yd [] (by decide) l A n c _ Zb.out hl (HE.out.below HB3.out)).mono ?_
 rintro e v4 ⟨rfl,hb4⟩
 have HB4:=hid (bel HB3.out hb4)
 clear hb4 ZG Zb HB3 Fg
 go_wp2
 go_ret2
 exact⟨rfl,HB4.out⟩
end Go.Proofs.YtmpeaoacaecgpaaGreatDoor.StkW
namespace Go.Proofs.YtmpeaoacaecgpaaGreatDoor.StkH
open Go.RowKit Base Base2 Regs Kq aj6 mW PrsP tK vZ WQ sU pO ES xH aj3 iH ajr FetC TL TK agZ StkF
theorem adx:Fine [97,98,111,117,116] [98,108,97,110,107] where
 au:=by decide+kernel
 let0:=by decide+kernel
 low:=by decide+kernel
 fs:=by decide+kernel
 amA:=by decide
 file:=by decide
 spc:=by decide+kernel
 r:=by decide+kernel
 r0:=by decide
 r47:=rfl
theorem anA (pv:Option Addr) (sp:Value) (s h:ByteArray) (p n:Int) (w:World) (E:Hy w):Calls Tryz.prog 98 #[.pointer pv,.string ⟨#[97,98,111,117,116,58,98,108,97,110,107]⟩,.agg #[.string s,.string h,.int .i64 p,.int .i64 n],sp] w fun e w'=>e=.returned (.agg #[.int .i64 3,.int .i64 200,.int .i64 0,.int .i64 0,.string ⟨#[116,101,120,116,47,104,116,109,108,59,99,104,97,114,115,101,116,61,117,116,102,45,56]⟩,.slice none 0 0])∧Below w.heap.size w w':=by
 have hT:(⟨#[97,98,111,117,116,58,98,108,97,110,107]⟩:ByteArray)=strOf ([97,98,111,117,116]++58::[98,108,97,110,107]):=rfl
 rw[hT]
 refine(Yu pv sp _ s h p n (fun cs _=>cs=#[.int .i64 3,.int .i64 200,.int .i64 0,.int .i64 0,.string ⟨#[116,101,120,116,47,104,116,109,108,59,99,104,97,114,115,101,116,61,117,116,102,45,56]⟩,.slice none 0 0]) (fun _ _ _ _ h _ _=>h) (hid fun w1 hb1 _=>(aaj _ sp _ (opU [97,98,111,117,116] [98,108,97,110,107]) s h p n w1 (hid fun w2 hb2=>Om (X8 adx (by decide) w2 (E.below (bel hb1 hb2)))) (by decide+kernel)).mono fun e w2 ⟨h1,h2⟩=>⟨_,h1,rfl,by simp[Value.oneCell'],h2,rfl⟩)).mono ?_
 rintro e w' ⟨cs,rfl,_,hb,rfl⟩
 exact⟨rfl,hb⟩
theorem awake27 (w:World) (E:O4.Env w):Calls Tryz.prog 37 #[] w fun e w'=>e=.returned (.bool true)∧Below w.heap.size w w':=by
 have HE:=hid E
 clear E
 have HTE:Hid (strOf (O4.DZ [] [[97]])=⟨#[102,105,108,101,58,47,47,47,97]⟩):=by show _=_;decide+kernel
 have kc:=fun(w:World) (C:Array Value) (n c:Nat)=>Lib.run_convert_bytes_const (P:=Tryz.prog) w 45 5 C n c Tryz.underlying45 Tryz.underlying5
 go_enter Tryz.func37,Tryz.ntmps37
 go_wp2_with fail
 refine(amy 1 1 5 (by decide) (by decide) (by decide) (by decide) (by decide) _).mono ?_
 rintro e w1 ⟨gs,gt,gu,gm,rfl,hK,hb⟩
 have Ux:=hid hK
 have HB1:=hid hb
 clear hK hb
 go_wp2_with fail
 have hb:=(Below.refl w1.heap.size w1).alloc (Nat.le_refl _) (.cells (ah [97,98,99]).toArray 5 (3,4))
 have hr:=qF w1 [97,98,99] 5 (3,4)
 have X6:=hid (Ux.out.below hb)
 have HB2:=hid (bel HB1.out hb)
 clear hb
 refine(ahg w.heap.size gs gt gu gm (nil0 5 1 1) _ 3 3 [97,98,99] ⟨#[]⟩ _ X6.out hr (by decide) (by decide) (by decide) (by decide) (by decide)).mono ?_
 rintro e w3 ⟨g,rfl,_,hK,hb,_⟩
 have HTOT:Hid (total (more (nil0 5 1 1) g [97,98,99] (Cb.kd (⟨#[]⟩:ByteArray).data.toList))=3):=by show _=_;rw[Sj];rfl;rintro(⟨q,hq,_⟩|⟨q,hq,_⟩)<;>cases hq
 have NV:=hid hK
 have HB3:Hid (Below w.heap.size w w3):=HB2.out.trans hb
 clear hK hb hr Ux HB1 X6 HB2 kc
 rw[show(((nil0 5 1 1).last:Nat):Int)+1=1 from rfl]
 go_wp2_with fail
 refine(StkW.anP ⟨#[47,97]⟩ [[97]] (by decide+kernel) (by decide) (by decide+kernel) _ (HE.out.below HB3.out)).mono ?_
 rw[HTE.out]
 rintro e w4 ⟨rfl,hb4⟩
 have HK4:=hid (NV.out.below hb4)
 have HB4:=hid (bel HB3.out hb4)
 clear hb4 NV HB3
 go_wp2_with fail
 refine(qw _ gs gt gu gm _ _ HK4.out).mono ?_
 rw[HTOT.out]
 rintro e w5 ⟨rfl,hb5⟩
 have iG:=hid (bel HB4.out hb5)
 clear hb5 HK4 HB4
 go_wp2
 go_ret
 exact⟨rfl,iG.out⟩
end Go.Proofs.YtmpeaoacaecgpaaGreatDoor.StkH
namespace Go.Proofs.YtmpeaoacaecgpaaGreatDoor.oP
open Go.RowKit Base sW dI qh yu HstP PthP
def bs (c:UInt8):UInt8:=if c=47 then 92 else c
def fs (c:UInt8):UInt8:=if c=92 then 47 else c
def BAR:List UInt8:=[60,62,58,34,47,92,124,63,42]
def Ug (c:UInt8):Bool:= !decide ((c.toNat:Int)<32)&& !BAR.contains c
def FY (x:List UInt8):Bool:=decide (x≠[46])&&decide (x≠[46,46])&&val x&&x.all Ug
def SX (x:List UInt8) (last:Bool):Bool:=FY x&&(decide (x≠[])||last)
def og:List (List UInt8)→Bool
 |[]=>true
 |x::r=>SX x r.isEmpty&&og r
def uo (c:UInt8):Bool:=letter c.toNat||digit c.toNat||decide (c=45)||decide (c=46)
def LOC:List UInt8:=[108,111,99,97,108,104,111,115,116]
def who (s:List UInt8):Bool:=s.all uo&&decide (hst s true=some s)&&decide (s≠LOC)
abbrev W3:=List UInt8×List UInt8×List (List UInt8)
def near:List (List UInt8)→Bool
 |a::b::r=>nrm a&&og (b::r)
 |_=>false
def far:List (List UInt8)→Bool
 |a::b::h::x::t=>decide (a=[])&&decide (b=[])&&who h&&decide (x≠[])&&og (x::t)
 |_=>false
def three (l:List (List UInt8)):W3:=if near l=true then(l.getD 0 [],[],l.drop 1)else([],l.getD 2 [],l.drop 3)
def YK (l:List (List UInt8)):Option W3:=if near l=true∨far l=true then some (three l)else none
def iT (p:List UInt8):List (List UInt8):=spl 92 (p.map bs)
def iM (p:List UInt8):Option W3:=YK (iT p)
def sK (p:List UInt8):Bool:=near (iT p)||far (iT p)
theorem sJ (p:List UInt8):(iM p).isSome=sK p:=by
 unfold iM YK sK
 cases near (iT p)<;>cases far (iT p)<;>rfl
theorem bs_bs (c:UInt8):bs (bs c)=bs c:=by
 unfold bs
 by_cases h:c=47
 ·subst h;rfl
 simp only[if_neg h]
theorem amT (p:List UInt8):iT (p.map bs)=iT p:=by
 unfold iT
 rw[List.map_map]
 congr 1
 exact List.map_congr_left fun c _=>bs_bs c
theorem fs_47 (c:UInt8):(fs c=47)↔(bs c=92):=by
 unfold bs fs
 by_cases h:c=92
 ·subst h;decide
 rw[if_neg h]
 by_cases h2:c=47
 ·subst h2;decide
 rw[if_neg h2]
 exact⟨fun e=>absurd e h2,fun e=>absurd e h⟩
theorem af4 (p:List UInt8):spl 47 (p.map fs)=iT p:=by
 unfold iT
 have h1:=agp 92 47 fs (p.map bs) (fun c hc=>by
  rw[fs_47]
  obtain⟨d,_,rfl⟩:=List.mem_map.1 hc
  rw[bs_bs])
 have e:(p.map bs).map fs=p.map fs:=by
  rw[List.map_map]
  refine List.map_congr_left fun c _=>?_
  show fs (bs c)=fs c
  unfold bs fs
  by_cases h:c=47
  ·subst h;rfl
  rw[if_neg h]
 rw[e]at h1
 rw[h1]
 conv=>rhs;rw[←List.map_id (spl 92 (p.map bs))]
 refine List.map_congr_left fun x hx=>?_
 conv=>rhs;rw[id,←List.map_id x]
 refine List.map_congr_left fun d hd=>?_
 have:=(OC 92 _ x hx d hd).2
 show fs d=d
 unfold fs
 rw[if_neg this]
theorem amw (l:List (List UInt8)) (h:near l=true):far l=false:=by
 match l,h with
 |a::b::r,h=>
  simp only[near,Bool.and_eq_true]at h
  match r with
  |[]=>rfl
  |[_]=>rfl
  |hh::x::t=>
   have:a≠[]:=by rintro rfl;exact absurd h.1 (by decide)
   show(decide (a=[])&&decide (b=[])&&who hh&&decide (x≠[])&&og (x::t))=false
   rw[decide_eq_false this]
   rfl
theorem ai0:∀(l:List (List UInt8)) (k:Nat) (h:k<l.length),og (l.drop k)=(SX l[k] (decide (k+1=l.length))&&og (l.drop (k+1))):=by
 intro l k h
 rw[List.drop_eq_getElem_cons h,og]
 congr 2
 rw[Bool.eq_iff_iff]
 simp only[List.isEmpty_iff,List.drop_eq_nil_iff,decide_eq_true_eq]
 omega
end Go.Proofs.YtmpeaoacaecgpaaGreatDoor.oP
namespace Go.Proofs.YtmpeaoacaecgpaaGreatDoor.ag1
open Go.RowKit Base Base2 Base3 sW yu Sls NI oP
open Go.Proofs.YtmpeaoacaecgpaaGreatDoor.pO (Max)
open Go.Proofs.YtmpeaoacaecgpaaGreatDoor.qh (val)
theorem Ie {p:UInt8→Bool} (L:List UInt8) (k:Nat) (h:k<L.length):(L.drop k).all p=(p L[k]&&(L.drop (k+1)).all p):=by
 rw[List.drop_eq_getElem_cons h,List.all_cons]
def rok (x:List UInt8):Bool:=x.all Ug&&val x
theorem wone_eq (x:List UInt8) (last:Bool):SX x last=(tH x last&&rok x):=by
 unfold SX FY tH rok
 cases decide (x≠[46])<;>cases decide (x≠[46,46])<;>cases val x<;>cases x.all Ug<;>cases(decide (x≠[])||last)<;>rfl
theorem agE:∀l:List (List UInt8),og l=(jO l&&l.all rok)
 |[]=>rfl
 |x::r=>by
  rw[og,jO,agE r,wone_eq,List.all_cons]
  cases tH x r.isEmpty<;>cases rok x<;>cases jO r<;>cases r.all rok<;>rfl
theorem ano (l:List (List UInt8)) (k:Nat) (h:k<l.length):(l.drop k).all rok=(rok l[k]&&(l.drop (k+1)).all rok):=by
 rw[List.drop_eq_getElem_cons h,List.all_cons]
theorem afZ {c:UInt8} (h1:¬(c.toNat:Int)<32) (h2:BAR.contains c=false):Ug c=true:=by unfold Ug;rw[h2,decide_eq_false h1];rfl
theorem afY {c:UInt8} (h1:(c.toNat:Int)<32):Ug c=false:=by unfold Ug;rw[decide_eq_true h1];rfl
theorem afX {c:UInt8} (h2:BAR.contains c=true):Ug c=false:=by unfold Ug;rw[h2];simp
theorem nD (s:ByteArray) (w:World) (hs:s.size≤900000):
  Calls Tryz.prog 283 #[.string s] w fun e w'=>e=.returned (.bool (FY s.data.toList))∧Below w.heap.size w w':=by
 have hl:s.data.toList.length=s.size:=Array.length_toList
 obtain⟨b,hb⟩:∃b,b=FY s.data.toList:=⟨_,rfl⟩
 rw[←hb]
 obtain⟨v,hv⟩:∃v,v=val s.data.toList:=⟨_,rfl⟩
 obtain⟨E,hE⟩:∃E,E=s.data.toList.all Ug:=⟨_,rfl⟩
 have HVA:Hid (∀(A:Option Addr) (n cap:Nat) (w:World),aY w A n (ah s.data.toList)→n≤1073741824→n≤cap→Calls Tryz.prog 102 #[.slice A n cap] w fun e w'=>e=.returned (.bool v)∧Below w.heap.size w w'):=fun A n cap w h1 h2 h3=>by rw[hv];exact qh.fF A n cap _ w h1 h2 h3
 have HCAP:Hid (∀w:World,s.size≤grownCap w s.size 0 5):=fun w=>grownCap_ge w s.size 0 5
 have hcv:=fun(w:World) s=>run_bytes_of_string (P:=Tryz.prog) w 9 45 5 s Tryz.underlying9 Tryz.underlying45 Tryz.underlying5
 have Zh:=hid hs
 have HL:=hid hl
 have Uw:Hid (E=(s.data.toList.drop 0).all Ug):=hE
 by_cases h1:s.data.toList=[46]
 ·have f1:(s.toList==[46])=true:=by rw[tl,h1];rfl
  have HF:Hid (b=false):=by show _=_;rw[hb,h1];rfl
  clear hb hv hE hs hl h1
  go_enter Tryz.func283,Tryz.ntmps283
  go_wp2
  go_ret
  exact⟨by rw[HF.out];first|done|rfl,Below.refl _ _⟩
 ·have f1:(s.toList==[46])=false:=by rw[tl,beq_eq_false_iff_ne];exact h1
  by_cases h2:s.data.toList=[46,46]
  ·have f2:(s.toList==[46,46])=true:=by rw[tl,h2];rfl
   have HF:Hid (b=false):=by show _=_;rw[hb,h2];rfl
   clear hb hv hE hs hl h1 h2
   go_enter Tryz.func283,Tryz.ntmps283
   go_wp2
   go_ret
   exact⟨by rw[HF.out];first|done|rfl,Below.refl _ _⟩
  ·have f2:(s.toList==[46,46])=false:=by rw[tl,beq_eq_false_iff_ne];exact h2
   have WA:Hid (b=(v&&E)):=by show _=_;rw[hb,hv,hE];unfold FY;rw[decide_eq_true h1,decide_eq_true h2];rfl
   clear hb hv hE hs hl h1 h2
   go_enter Tryz.func283,Tryz.ntmps283
   go_wp2_with fail
   refine(HVA.out _ s.size _ _ (fV s _ _ 5) (by have:=Zh.out;omega) (HCAP.out _)).mono ?_
   rintro e w3 ⟨rfl,hb3⟩
   have HB:=hid (((Below.refl w.heap.size w).alloc (Nat.le_refl _) _).drew.trans (hb3.mono (by simp)))
   clear hb3 hcv
   cases v with
   |false=>
    have HF:Hid (b=false):=by show _=_;rw[WA.out];rfl
    go_wp2
    go_ret
    exact⟨by rw[HF.out];first|done|rfl,HB.out⟩
   | true=>
    have HF:Hid (b=E):=by show _=_;rw[WA.out];rfl
    go_wp2
    go_loopw [3] (fun vk wr=>∃k:Nat,k≤s.size∧vk=.int .i64 (k:Int)∧wr=w3∧Hid (E=(s.data.toList.drop k).all Ug)) (fun vk _=>s.size - (intOf vk).toNat)
    case atStart=>exact⟨0,Nat.zero_le _,rfl,rfl,Uw⟩
    case round =>
     clear Uw
     have hss:=Zh.out
     obtain⟨k,hk,rfl,rfl,HE⟩:=hrel
     by_cases hlt:k<s.size
     ·obtain ⟨c,hc⟩:∃c,s[k]=c:=⟨_,rfl⟩
      have hkl:k<s.data.toList.length:=by rw[HL.out];exact hlt
      have hcl:s.data.toList[k]=c:=hc
      have hok:=Ie (p:=Ug) s.data.toList k hkl
      rw[hcl]at hok
      by_cases h3:(c.toNat:Int)<32
      ·have HE2:Hid (E=false):=by show _=_;rw[HE.out,hok,afY h3];rfl
       clear hok hkl hcl
       go_wp2
       go_ret
       exact⟨by rw[HF.out,HE2.out];first|done|rfl,HB.out⟩
      ·obtain⟨a,ha⟩:∃a,a=BAR.contains c:=⟨_,rfl⟩
       have YN:Hid (∀w:World,Calls Tryz.prog 217 #[.string ⟨#[60,62,58,34,47,92,124,63,42]⟩,.int .u8 (c.toNat:Int)] w fun e w'=>∃z:Int,e=.returned (.int .i64 z)∧decide (0≤z)=a∧w'=w):=fun w=>by
        refine(Tryz.strings_IndexByte ⟨#[60,62,58,34,47,92,124,63,42]⟩ _ w).mono ?_
        rintro e w' ⟨rfl,rfl⟩
        refine⟨_,rfl,?_,rfl⟩
        rw[show((c.toNat:Int).toNat.toUInt8)=c by simp,alO,ha]
        rfl
       cases a with
       |true=>
        have HE2:Hid (E=false):=by show _=_;rw[HE.out,hok,afX ha.symm];rfl
        clear hok hkl hcl ha
        go_wp2_with fail
        refine(YN.out _).mono ?_
        rintro e w2 ⟨z,rfl,hz,hw2⟩
        subst hw2
        have hz1:0≤z:=by simpa using hz
        clear hz
        go_wp2
        go_ret
        exact⟨by rw[HF.out,HE2.out];first|done|rfl,HB.out⟩
       |false=>
        have HE2:Hid (E=(s.data.toList.drop (k+1)).all Ug):=by show _=_;rw[HE.out,hok,afZ h3 ha.symm];rfl
        clear hok hkl hcl ha
        go_wp2_with fail
        refine(YN.out _).mono ?_
        rintro e w2 ⟨z,rfl,hz,hw2⟩
        subst hw2
        have hz1:¬0≤z:=by simpa using hz
        clear hz
        go_wp2
        go_roundw
        case rel=>exact⟨k+1,by omega,by go_num,by first|rfl|trivial,HE2⟩
        case measure=>simp[intOf];omega
     ·obtain rfl:k=s.size:=by omega
      have HE2:Hid (E=true):=by show _=_;rw[HE.out,List.drop_eq_nil_of_le (by rw[HL.out];exact Nat.le_refl _)];rfl
      go_wp2
      go_ret
      exact⟨by rw[HF.out,HE2.out];first|done|rfl,HB.out⟩
theorem MG (A:Option Addr) (n cap:Nat) (l:List (List UInt8)) (w:World) (hR:aY w A n ((l.map strOf).map Value.string)) (hm:n≤1073741824) (hz:∀x ∈ l,x.length≤900000):
  Calls Tryz.prog 212 #[.slice A n cap] w fun e w'=>e=.returned (.bool (og l))∧Below w.heap.size w w':=by
 have hl:l.length=n:=by rw[←hR.1,List.length_map,List.length_map]
 obtain⟨E,hE⟩:∃E,E=og l:=⟨_,rfl⟩
 rw[←hE]
 have HN:=hid hl
 have HR:=hid hR
 have HZ:=hid hz
 have Uw:Hid (E=og (l.drop 0)):=hE
 clear hl hR hE hz
 go_enter Tryz.func212,Tryz.ntmps212
 go_wp2
 go_loopw [3,4,7] (fun _ _ vk wr=>∃k:Nat,k≤n∧vk=.int .i64 (k:Int)∧Hid (Below w.heap.size w wr)∧Hid (E=og (l.drop k))) (fun _ _ vk _=>n - (intOf vk).toNat)
 case atStart=>exact⟨0,Nat.zero_le _,rfl,Below.refl _ _,Uw⟩
 case round=>
  clear Uw
  obtain⟨k,hk,rfl,HB,HE⟩:=hrel
  have HRr:=hid (HR.out.below HB.out)
  by_cases hlt:k<n
  ·obtain ⟨g,off,rfl,hg,hc⟩:=zQ HRr.out k hlt HN.out
   obtain⟨x,hx⟩:∃x,x=l[k]'(by rw[HN.out];exact hlt):=⟨_,rfl⟩
   rw[←hx]at hc
   have hxl:x.length≤900000:=HZ.out x (by rw[hx];exact List.getElem_mem _)
   have hok:=ai0 l k (by rw[HN.out];exact hlt)
   rw[show l[k]'(by rw[HN.out];exact hlt)=x from hx.symm,HN.out]at hok
   obtain⟨f,hf⟩:∃f,f=FY x:=⟨_,rfl⟩
   have HFR:Hid (∀w:World,Calls Tryz.prog 283 #[.string (strOf x)] w fun e w'=>e=.returned (.bool f)∧Below w.heap.size w w'):=fun w=>by rw[hf];exact nD (strOf x) w (by rw[size_strOf];omega)
   cases f with
   |false=>
    have HE2:Hid (E=false):=by show _=_;rw[HE.out,hok];unfold SX;rw[←hf];rfl
    clear hok hx hf
    go_wp2_with fail
    refine(HFR.out _).mono ?_
    rintro e w2 ⟨rfl,hb2⟩
    have HB2:=hid (bel HB.out hb2)
    clear hb2 hc
    go_wp2
    go_ret
    exact⟨by rw[HE2.out];first|done|rfl,HB2.out⟩
   | true=>
    by_cases h3:x=[]
    ·have f3:(strOf x).toList=[]:=by rw[tl];exact h3
     have f3':((strOf x).toList==[])=true:=by rw[f3];rfl
     by_cases hla:k+1=n
     ·have hli:¬(k:Int)<(n:Int) - 1:=by omega
      have HE2:Hid (E=og (l.drop (k+1))):=by show _=_;rw[HE.out,hok];unfold SX;rw[←hf,decide_eq_true hla];simp
      clear hok hx hf h3 hla
      go_wp2_with fail
      refine(HFR.out _).mono ?_
      rintro e w2 ⟨rfl,hb2⟩
      have HB2:=hid (bel HB.out hb2)
      clear hb2 hc
      go_wp2
      go_roundw
      case rel=>exact⟨k+1,by omega,by go_num,HB2,HE2⟩
      case measure=>simp[intOf];omega
     ·have hli:(k:Int)<(n:Int) - 1:=by omega
      have HE2:Hid (E=false):=by show _=_;rw[HE.out,hok];unfold SX;rw[h3,decide_eq_false hla];simp
      clear hok hx hf h3 hla
      go_wp2_with fail
      refine(HFR.out _).mono ?_
      rintro e w2 ⟨rfl,hb2⟩
      have HB2:=hid (bel HB.out hb2)
      clear hb2 hc
      go_wp2
      go_ret
      exact⟨by rw[HE2.out];first|done|rfl,HB2.out⟩
    ·have f3:((strOf x).toList==[])=false:=by rw[tl,beq_eq_false_iff_ne];exact h3
     have f3':(strOf x).toList.isEmpty=false:=by rw[tl];simpa[strOf]using h3
     have HE2:Hid (E=og (l.drop (k+1))):=by show _=_;rw[HE.out,hok];unfold SX;rw[←hf,decide_eq_true h3];rfl
     clear hok hx hf h3
     go_wp2_with fail
     refine(HFR.out _).mono ?_
     rintro e w2 ⟨rfl,hb2⟩
     have HB2:=hid (bel HB.out hb2)
     clear hb2 hc
     go_wp2
     go_roundw
     case rel=>exact⟨k+1,by omega,by go_num,HB2,HE2⟩
     case measure=>simp[intOf];omega
  ·obtain rfl:k=n:=by omega
   have HE2:Hid (E=true):=by show _=_;rw[HE.out,List.drop_eq_nil_of_le (by rw[HN.out];exact Nat.le_refl _)];rfl
   clear HRr
   go_wp2
   go_ret
   exact⟨by rw[HE2.out];first|done|rfl,HB.out⟩
theorem Nh (A : Option Addr) (n cap : Nat) (l : List (List UInt8)) (w : World) (hR : aY w A n ((l.map strOf).map Value.string)) (hm : n ≤ 900001) (hz : ∀ x ∈ l, x.length ≤ 900000) :
  Calls Tryz.prog 208 #[.slice A n cap] w fun e w'=>e=.returned (.bool (og l&&decide (0<l.length)))∧Below w.heap.size w w':=by
 have hl:l.length=n:=by rw[←hR.1,List.length_map,List.length_map]
 obtain⟨E,hE⟩:∃E,E=l.all rok:=⟨_,rfl⟩
 obtain⟨O,hO⟩:∃O,O=(jO l&&decide (0<l.length)):=⟨_,rfl⟩
 have HW:Hid ((og l&&decide (0<l.length))=(E&&O)):=by
  show _=_
  rw[agE,hE,hO]
  cases jO l<;>cases l.all rok<;>cases decide (0<l.length)<;>rfl
 have HRO:Hid (∀w:World,aY w A n ((l.map strOf).map Value.string)→Calls Tryz.prog 100 #[.slice A n cap] w fun e w'=>e=.returned (.bool O)∧w=w'):=fun w h=>by rw[hO];exact abu A n cap l w h (by omega)
 have hcv:=fun(w:World) s=>run_bytes_of_string (P:=Tryz.prog) w 9 45 5 s Tryz.underlying9 Tryz.underlying45 Tryz.underlying5
 have HCV:=hid hcv
 have HN:=hid hl
 have HR:=hid hR
 have HZ:=hid hz
 have Uw:Hid (E=(l.drop 0).all rok):=hE
 clear hl hR hE hz hO hcv
 go_enter Tryz.func208,Tryz.ntmps208
 go_wp2
 go_loopw [3,4,7,15] (fun _ _ vk _ wr=>∃k:Nat,k≤n∧vk=.int .i64 (k:Int)∧Hid (Below w.heap.size w wr)∧Hid (E=(l.drop k).all rok)) (fun _ _ vk _ _=>n - (intOf vk).toNat)
 case atStart=>exact⟨0,Nat.zero_le _,rfl,Below.refl _ _,Uw⟩
 case round=>
  clear Uw
  obtain⟨k,hk,rfl,HB,HE⟩:=hrel
  have HRr:=hid (HR.out.below HB.out)
  by_cases hlt:k<n
  ·obtain ⟨g,off,rfl,hg,hc⟩:=zQ HRr.out k hlt HN.out
   obtain⟨x,hx⟩:∃x,x=l[k]'(by rw[HN.out];exact hlt):=⟨_,rfl⟩
   rw[←hx]at hc
   have hxl:x.length≤900000:=HZ.out x (by rw[hx];exact List.getElem_mem _)
   have hok:=ano l k (by rw[HN.out];exact hlt)
   rw[show l[k]'(by rw[HN.out];exact hlt)=x from hx.symm]at hok
   have hsz:(strOf x).size=x.length:=size_strOf x
   obtain⟨s,hsx⟩:∃s,s=strOf x:=⟨_,rfl⟩
   rw[←hsx]at hc hsz
   have hsl:s.data.toList=x:=by rw[hsx];rfl
   obtain⟨v,hv⟩:∃v,v=val x:=⟨_,rfl⟩
   have HVA:Hid (∀(A:Option Addr) (n cap:Nat) (w:World),aY w A n (ah s.data.toList)→n≤1073741824→n≤cap→Calls Tryz.prog 99 #[.slice A n cap] w fun e w'=>e=.returned (.bool v)∧Below w.heap.size w w'):=fun A n cap w h1 h2 h3=>by rw[hv,←hsl];exact akn.fF A n cap _ w h1 h2 h3
   have HCAP:Hid (∀w:World,s.size≤grownCap w s.size 0 5):=fun w=>grownCap_ge w s.size 0 5
   obtain⟨F,hF⟩:∃F,F=x.all Ug:=⟨_,rfl⟩
   have HRK:Hid (E=(F&&v&&(l.drop (k+1)).all rok)):=by show _=_;rw[HE.out,hok];unfold rok;rw[hF,hv]
   have HF0:Hid (F=(s.data.toList.drop 0).all Ug):=by show _=_;rw[hsl];exact hF
   have HSL:Hid (s.data.toList.length=s.size):=Array.length_toList
   have HC:=hid hc
   have hss:s.size≤900000:=by omega
   clear hok hx hv hF hsl hsx hsz hxl hc
   have hc:=HC.out
   go_wp2
   clear hc
   go_loopw [4,15] (fun _ vj wj=>∃j:Nat,j≤s.size∧vj=.int .i64 (j:Int)∧wj=wr∧Hid (F=(s.data.toList.drop j).all Ug)) (fun _ vj _=>s.size - (intOf vj).toNat)
   case atStart=>exact⟨0,Nat.zero_le _,rfl,rfl,HF0⟩
   case round =>
    clear HF0
    obtain⟨j,hj,rfl,rfl,HF⟩:=hrel
    have hc:=HC.out
    by_cases hjt:j<s.size
    ·obtain ⟨c,hcc⟩:∃c,s[j]=c:=⟨_,rfl⟩
     have hkl:j<s.data.toList.length:=by rw[HSL.out];exact hjt
     have hcl:s.data.toList[j]=c:=hcc
     have hok:=Ie (p:=Ug) s.data.toList j hkl
     rw[hcl]at hok
     by_cases h3:(c.toNat:Int)<32
     ·have HE2:Hid (E=false):=by show _=_;rw[HRK.out,HF.out,hok,afY h3];rfl
      clear hok hkl hcl
      go_wp2
      go_ret
      exact⟨by rw[HW.out,HE2.out];first|done|rfl,HB.out⟩
     ·obtain⟨a,ha⟩:∃a,a=BAR.contains c:=⟨_,rfl⟩
      have YN:Hid (∀w:World,Calls Tryz.prog 85 #[.string ⟨#[60,62,58,34,47,92,124,63,42]⟩,.int .u8 (c.toNat:Int)] w fun e w'=>e=.returned (.bool a)∧w=w'):=fun w=>by rw[ha];exact Gn.kC ⟨#[60,62,58,34,47,92,124,63,42]⟩ c w (by decide)
      cases a with
      |true=>
       have HE2:Hid (E=false):=by show _=_;rw[HRK.out,HF.out,hok,afX ha.symm];rfl
       clear hok hkl hcl ha
       go_wp2_with fail
       refine(YN.out _).mono ?_
       rintro e w2 ⟨rfl,hw2⟩
       subst hw2
       go_wp2
       go_ret
       exact⟨by rw[HW.out,HE2.out];first|done|rfl,HB.out⟩
      |false=>
       have HE2:Hid (F=(s.data.toList.drop (j+1)).all Ug):=by show _=_;rw[HF.out,hok,afZ h3 ha.symm];rfl
       clear hok hkl hcl ha
       go_wp2_with fail
       refine(YN.out _).mono ?_
       rintro e w2 ⟨rfl,hw2⟩
       subst hw2
       go_wp2
       go_roundw
       case rel=>exact⟨j+1,by omega,by go_num,by first|rfl|trivial,HE2⟩
       case measure=>simp[intOf];omega
    ·obtain rfl:j=s.size:=by omega
     have HF2:Hid (F=true):=by show _=_;rw[HF.out,List.drop_eq_nil_of_le (by rw[HSL.out];exact Nat.le_refl _)];rfl
     have hcv:=HCV.out
     go_wp2_with fail
     clear hc
     refine(HVA.out _ s.size _ _ (fV s _ _ 5) (by omega) (HCAP.out _)).mono ?_
     rintro e w3 ⟨rfl,hb3⟩
     have HB3:=hid (bel HB.out (((Below.refl _ _).alloc (Nat.le_refl _) _).drew.trans (hb3.mono (by simp))))
     clear hb3 hcv
     cases v with
     |false=>
      have HE2:Hid (E=false):=by show _=_;rw[HRK.out];simp
      go_wp2
      go_ret
      exact⟨by rw[HW.out,HE2.out];first|done|rfl,HB3.out⟩
     |true=>
      have HE2:Hid (E=(l.drop (k+1)).all rok):=by show _=_;rw[HRK.out,HF2.out];rfl
      go_wp2
      go_roundw
      case rel=>exact⟨k+1,by omega,by go_num,HB3,HE2⟩
      case measure=>simp[intOf];omega
  ·obtain rfl:k=n:=by omega
   have HE2:Hid (E=true):=by show _=_;rw[HE.out,List.drop_eq_nil_of_le (by rw[HN.out];exact Nat.le_refl _)];rfl
   go_wp2_with fail
   refine(HRO.out _ HRr.out).mono ?_
   rintro e w2 ⟨rfl,hw2⟩
   subst hw2
   go_wp2
   go_ret
   exact⟨by rw[HW.out,HE2.out];first|done|rfl,HB.out⟩
end Go.Proofs.YtmpeaoacaecgpaaGreatDoor.ag1
