/- Texts that belong together: CQ, BG, Wx, agI, TokS, NH, BuiB, YX, PthK. -/
import Derived.Test.YtmpeaoacaecgpaaGreatDoorXAD
import Derived.Test.YtmpeaoacaecgpaaGreatDoorXAM
import Derived.Deep.QuietTactic
import Derived.BigQuiet
import Derived.Test.YtmpeaoacaecgpaaGreatDoorXAA
import Derived.Shelf.Strings.Builder1
import Derived.Test.YtmpeaoacaecgpaaGreatDoorShelf
import Derived.Test.YtmpeaoacaecgpaaGreatDoorXAL
import Derived.Test.YtmpeaoacaecgpaaGreatDoorXAG
import Derived.Test.YtmpeaoacaecgpaaGreatDoorXAJ
import Derived.Laws.RangeAny
import Derived.Laws.Runes
import Derived.Deep.LoopGhost
import Derived.WalkMore
import Derived.Test.YtmpeaoacaecgpaaGreatDoorXAC
set_option linter.unusedSimpArgs false
set_option linter.unusedVariables false
set_option maxRecDepth 100000
set_option maxHeartbeats 64000000
namespace Go.Proofs.YtmpeaoacaecgpaaGreatDoor.CQ
open Go.ChangeShapes Go.WideShapes Go.ChangeAt Go.RowKit Go.Deep Base rC
def Short (l:List (ByteArray×ByteArray)):Prop:=∀p ∈ l,p.1.size≤140737488351232∧p.2.size≤140737488351232
variable {P:Program} {w:World} {H:Type} {enc:TypeId×Value→H} {base:Nat} {held:Bool} {spare:Nat→Bool}
theorem aay {ts:List TypeId} {ds:List (DataW H)} (hsz:(DataW.weightsEach P ts ds).all (·≤reachBytes)=true) {i:Nat} {ta:TypeId} {fs:Array Field} {parts:List (DataW H)} (hti:ts[i]?=some ta) (hdi:ds[i]?=some (.agg parts)) (hu:P.underlying ta=some (.struct fs))
  {j:Nat} {t e:TypeId} (hf:(fs.toList.map (·.type))[j]?=some t) {f0 f1:Field} {fuel:Nat} {v:Value} {x:DataW H×List MemPlace} (hp:parts[j]?=some x.1) (ht:P.underlying t=some (.slice e)) (he:P.underlying e=some (.struct #[f0,f1])) (h0:P.underlying f0.type=some .string) (h1:P.underlying f1.type=some .string)
  (hone:oneCellFields P #[f0,f1]=true) (hC:P.cellsOf e=2) (h:DataW.trod enc P w base spare held fuel t [v]=some x):
  ∃A n cap l,v=.slice A n cap∧n≤cap∧cap≤maxLen∧zH w A n l∧Short l:=by
 rcases open_slice ht h with⟨hcs,_⟩|⟨a,len,cap,m,n,D,Pl,hcs,hb,hl,hm,hmm,hx,hi⟩
 ·obtain rfl:v=.slice none 0 0:=by simpa using hcs
  exact⟨none,0,0,[],rfl,Nat.le_refl _,Nat.zero_le _,⟨rfl,fun j hj=>absurd hj (by simp)⟩,by simp[Short]⟩
 ·obtain rfl:v=.slice (some a) len cap:=by simpa using hcs
  have HM:∀i,i<len→∀k ∈ (D i).weights P e,k≤reachBytes:=by
   intro i hlt k hk
   have hmem:k ∈ (DataW.agg parts).weights P ta:=by
    simp only[DataW.weights,hu]
    refine DataW.weights_mem_each hf hp _ ?_
    rw[hx]
    simp only[DataW.weights,ht]
    exact List.mem_cons_of_mem _ (List.mem_append_left _ (AggN.weightsAll_mem (d:=D i) (List.mem_map.2 ⟨i,by simpa using hlt,rfl⟩) _ hk))
   have:=List.all_eq_true.1 hsz _ (DataW.weights_mem_each hti hdi _ hmem)
   exact of_decide_eq_true this
  have HH:∀i,i<len→∃p:ByteArray×ByteArray,w.cell? (a.add (i*2))=some (.string p.1)∧w.cell? (a.add (i*2+1))=some (.string p.2)∧p.1.size≤140737488351232∧p.2.size≤140737488351232:=by
   intro i hlt
   have him:i<m:=by rw[hmm];split<;>omega
   obtain⟨cs',hc,ht'⟩:=hi i him
   rw[hC]at hc
   obtain⟨_,hcl,hat⟩:=World.cells?_some hc
   obtain⟨y0,y1,n',hD,_,t0,t1⟩:=trod_struct2 he ht'
   obtain⟨ho0,hk0⟩:=hone_of hone 0 f0 rfl
   obtain⟨ho1,hk1⟩:=hone_of hone 1 f1 rfl
   rw[ho0,hk0]at t0
   rw[ho1,hk1]at t1
   obtain⟨v0,v1,rfl⟩:∃v0 v1,cs'=[v0,v1]:=by
    match cs',hcl with
    |[v0,v1],_=>exact⟨v0,v1,rfl⟩
   have t0':DataW.trod enc P w base spare held n' f0.type [v0]=some y0:=t0
   have t1':DataW.trod enc P w base spare held n' f1.type [v1]=some y1:=t1
   obtain⟨s0,e0,d0,_⟩:=DataW.trod_string h0 t0'
   obtain⟨s1,e1,d1,_⟩:=DataW.trod_string h1 t1'
   obtain rfl:v0=.string s0:=by simpa using e0
   obtain rfl:v1=.string s1:=by simpa using e1
   have hDi:D i=.agg [y0.1,y1.1]:=congrArg Prod.fst hD
   have hw:=HM i hlt
   rw[hDi,d0,d1]at hw
   have hwe:∀k,(k=s0.data.toList.length∨k=s1.data.toList.length)→k ∈ (DataW.agg [(DataW.lit (.string s0.data.toList):DataW H),.lit (.string s1.data.toList)]).weights P e:=by
    intro k hk
    simp only[DataW.weights,he]
    rcases hk with rfl|rfl
    ·exact DataW.weights_mem_each (j:=0) rfl rfl _ (by simp[DataW.weights])
    ·exact DataW.weights_mem_each (j:=1) rfl rfl _ (by simp[DataW.weights])
   have b0:=hw _ (hwe _ (.inl rfl))
   have b1:=hw _ (hwe _ (.inr rfl))
   rw[show s0.data.toList.length=s0.size from Array.length_toList]at b0
   rw[show s1.data.toList.length=s1.size from Array.length_toList]at b1
   have c0:=hat 0 (by omega)
   have c1:=hat 1 (by omega)
   rw[Go.Deep.add_add]at c1
   refine⟨(s0,s1),?_,?_,b0,b1⟩
   ·have:(a.add (i*2)).add 0=a.add (i*2):=by rw[Go.Deep.add_add,Nat.add_zero]
    rw[this]at c0
    rw[c0];rfl
   ·rw[c1];rfl
  have HL : ∀ k, k ≤ len → ∃ l : List (ByteArray × ByteArray), l.length = k ∧ (∀ j (hj : j < l.length), w.cell? (a.add (j * 2)) = some (.string l[j].1) ∧ w.cell? (a.add (j * 2 + 1)) = some (.string l[j].2)) ∧ Short l := by
   intro k
   induction k with
   |zero=>intro _;exact⟨[],rfl,fun j hj=>absurd hj (by simp),by simp[Short]⟩
   | succ k ih=>
    intro hk
    obtain⟨l,hl,hc,hsh⟩:=ih (by omega)
    obtain⟨p,h1,h2,h3,h4⟩:=HH k (by omega)
    refine⟨l++[p],by simp[hl],fun j hj=>?_,?_⟩
    ·by_cases hjl:j<l.length
     ·rw[List.getElem_append_left hjl]
      exact hc j hjl
     ·obtain rfl:j=k:=by simp[hl]at hj;omega
      simp[hl]at*
      exact⟨h1,h2⟩
    ·intro q hq
     rcases List.mem_append.1 hq with hq|hq
     ·exact hsh q hq
     ·simp at hq
      subst hq
      exact⟨h3,h4⟩
  obtain⟨l,hlen,hc,hsh⟩:=HL len (Nat.le_refl _)
  refine⟨some a,len,cap,l,rfl,hl,hm,⟨hlen,fun j hj=>?_⟩,hsh⟩
  obtain⟨c0,c1⟩:=hc j hj
  obtain⟨b,off,rfl,hbb⟩:=abJ (hc 0 (by omega)).1
  rw[ZH]at c0 c1
  exact⟨b,off,rfl,hbb,c0,c1⟩
end Go.Proofs.YtmpeaoacaecgpaaGreatDoor.CQ
namespace Go.Proofs.YtmpeaoacaecgpaaGreatDoor.BG
open Go.RowKit Base Base2 cO pU qg OW NG OX oG Zu sV rC CQ
theorem XG (a b:ByteArray):(a.toList==b.toList)=decide (a.data.toList=b.data.toList):=by
 rw[Lib.toList_data,Lib.toList_data,Bool.eq_iff_iff]
 simp
theorem uJ (s:ByteArray) (w:World) (hs:s.size≤1073741824):Calls Tryz.prog 185 #[.string s] w fun e w'=>e=.returned (.bool (RG s.data.toList))∧Below w.heap.size w w':=by
 have hi:=fun w=>Gn.QC s w hs
 obtain⟨M,hM⟩:∃M:ByteArray,M=strOf (lower s.data.toList):=⟨_,rfl⟩
 have hq:=XG M s
 have hlw:=fun w=>cO.gI s w (by unfold maxLen;omega)
 rw[←hM]at hlw
 have Tf:=hid hlw
 obtain⟨b,hb⟩:∃b,b=decide (M.data.toList=s.data.toList):=⟨_,rfl⟩
 rw[←hb]at hq
 have hV:RG s.data.toList=(dP s.data.toList&&b):=by unfold RG;rw[hb,hM];rfl
 obtain⟨t,ht⟩:∃t,t=dP s.data.toList:=⟨_,rfl⟩
 rw[←ht]at hi hV
 have HV:=hid hV
 have HI:=hid hi
 clear hlw hM hb hV ht hi hs
 go_enter Tryz.func185,Tryz.ntmps185
 go_wp2_with fail
 refine(HI.out _).mono ?_
 rintro e w2 ⟨rfl,hw2⟩
 subst hw2
 cases t with
 |false=>
  go_wp2
  go_ret
  exact⟨ak (by rw[HV.out];rfl),Below.refl _ _⟩
 |true=>
  go_wp2_with fail
  refine(Tf.out _).mono ?_
  rintro e w3 ⟨rfl,hb3⟩
  go_wp2
  go_ret
  exact⟨ak (by rw[HV.out];simp[hq]),hb3⟩
theorem Aw (s:ByteArray) (w:World) (hs:s.size≤1073741824):Calls Tryz.prog 184 #[.string s] w fun e w'=>e=.returned (.bool (RG s.data.toList))∧Below w.heap.size w w':=by
 have hi:=fun w=>Gn.ref_is s w hs
 obtain⟨M,hM⟩:∃M:ByteArray,M=strOf (lower s.data.toList):=⟨_,rfl⟩
 have hq:=XG M s
 have hlw:=fun w=>jK.gI s w (by omega)
 rw[←hM]at hlw
 have Tf:=hid hlw
 obtain⟨b,hb⟩:∃b,b=decide (M.data.toList=s.data.toList):=⟨_,rfl⟩
 rw[←hb]at hq
 have hV:RG s.data.toList=(dP s.data.toList&&b):=by unfold RG;rw[hb,hM];rfl
 obtain⟨t,ht⟩:∃t,t=dP s.data.toList:=⟨_,rfl⟩
 rw[←ht]at hi hV
 have HV:=hid hV
 have HI:=hid hi
 clear hlw hM hb hV ht hi hs
 go_enter Tryz.func184,Tryz.ntmps184
 go_wp2_with fail
 refine(HI.out _).mono ?_
 rintro e w2 ⟨rfl,hw2⟩
 subst hw2
 cases t with
 |false=>
  go_wp2
  go_ret
  exact⟨ak (by rw[HV.out];rfl),Below.refl _ _⟩
 |true=>
  go_wp2_with fail
  refine(Tf.out _).mono ?_
  rintro e w3 ⟨rfl,hb3⟩
  go_wp2
  go_ret
  exact⟨ak (by rw[HV.out];simp[hq]),hb3⟩
theorem Dn (T S:ByteArray) (v:Value) (w:World) (hT:T.size≤140737488351232) (hS:S.size≤140737488351232):
  Calls Tryz.prog 67 #[.agg #[.string T,.string S,v]] w fun e w'=>e=.returned (.string (strOf (ess T.data.toList S.data.toList)))∧Below w.heap.size w w':=by
 obtain⟨Y,hY⟩:∃Y,Y=T.data.toList++[47]:=⟨_,rfl⟩
 obtain⟨Z,hZ⟩:∃Z,Z=Y++S.data.toList:=⟨_,rfl⟩
 have hYl:Y.length=T.size+1:=by rw[hY,List.length_append,show T.data.toList.length=T.size from Array.length_toList];rfl
 have a1:∀w:World,(Op.stringOp .add T ⟨#[47]⟩).run Tryz.prog w=.ok (.string (strOf Y)) w:=fun w=>by rw[hY];exact dL _ ⟨#[47]⟩ w (by show _+1≤_;omega)
 have a2:∀w:World,(Op.stringOp .add (strOf Y) S).run Tryz.prog w=.ok (.string (strOf Z)) w:=fun w=>by rw[hZ];exact dL _ S w (by rw[size_strOf];omega)
 have HZ:Hid (ess T.data.toList S.data.toList=Z):=by show _=_;rw[hZ,hY];simp[ess]
 clear hY hZ hYl hT hS
 go_enter Tryz.func67,Tryz.ntmps67
 go_wp2
 go_ret
 exact⟨by rw[HZ.out];rfl,(Below.refl _ _).alloc (Nat.le_refl _) _⟩
def vY (T S:ByteArray) (l:List (ByteArray×ByteArray)):Prop:=l.length≤20∧T.size+S.size≤200∧∀p ∈ l,p.1.size+p.2.size≤200
def NY (w:World) (T S:ByteArray) (l:List (ByteArray×ByteArray)) (e:Ending) (w':World):Prop:=∃b:Bool,e=.returned (.bool b)∧(b=true→vY T S l)∧Below w.heap.size w w'
theorem afr (T S:ByteArray) (A:Option Addr) (n cap:Nat) (l:List (ByteArray×ByteArray)) (w:World) (hr:zH w A n l) (hc:n≤cap) (hm:cap≤maxLen) (hsh:Short l) (hT:T.size≤140737488351232) (hS:S.size≤140737488351232):
  Calls Tryz.prog 33 #[.agg #[.string T,.string S,.slice A n cap]] w (NY w T S l):=by
 unfold maxLen at hm
 have hl:=hr.1
 have HR:=hid hr
 have HL:=hid hl
 have HSH:=hid hsh
 clear hr hl hsh
 have fin:∀(b:Bool) (w':World),Below w.heap.size w w'→(b=true→vY T S l)→NY w T S l (.returned (.bool b)) w':=fun b w' h hb=>⟨b,rfl,hb,h⟩
 have FIN:=hid fin
 clear fin
 go_enter Tryz.func33,Tryz.ntmps33
 go_wp2
 go_loopw [3,7] (fun _ vk wr=>∃k:Nat,k≤n∧vk=.int .i64 (k:Int)∧Hid (B3 44 wr w.heap.size (.string T) (.string S) (.slice A n cap))∧Hid (Below w.heap.size w wr)∧Hid (∀j (h:j<l.length),j<k→l[j].1.size+l[j].2.size≤200)) (fun _ vk _=>n - (intOf vk).toNat)
 case atStart=>exact⟨0,Nat.zero_le _,rfl,heap_alloc_new w _,(Below.refl _ _).alloc (Nat.le_refl _) _,fun j _ h=>by omega⟩
 case round=>
  obtain⟨k,hk,rfl,HM,HB,HF⟩:=hrel
  obtain⟨c0,c1,c2⟩:=HM.out.facts
  by_cases hlt:k<n
  ·obtain ⟨b,off,rfl,hb,h1,h2⟩:=(HR.out.under HB.out (Nat.le_refl _)).2 k (by rw[HL.out];exact hlt)
   have hkl:k<l.length:=by rw[HL.out];exact hlt
   have hpz:=HSH.out l[k] (List.getElem_mem hkl)
   obtain⟨s1,hs1⟩:∃s,s=l[k].1:=⟨_,rfl⟩
   obtain⟨s2,hs2⟩:∃s,s=l[k].2:=⟨_,rfl⟩
   rw[←hs1]at h1 hpz
   rw[←hs2]at h2 hpz
   obtain⟨z1,z2⟩:=hpz
   have BD:=hid hs1
   have HS2:=hid hs2
   clear hs1 hs2 hb
   have HKL2:=hid hkl
   have hkI:(k:Int)<(n:Int):=by omega
   obtain⟨n1,hn1⟩:∃z:Int,z=(s1.size:Int):=⟨_,rfl⟩
   obtain⟨n2,hn2⟩:∃z:Int,z=(s2.size:Int):=⟨_,rfl⟩
   by_cases alG:s1.size+s2.size≤200
   ·have HF2:Hid (∀j (h:j<l.length),j<k+1→l[j].1.size+l[j].2.size≤200):=by
     intro j h hj
     by_cases hjk:j<k
     ·exact HF.out j h hjk
     ·obtain rfl:j=k:=by omega
      rw[←BD.out,←HS2.out]
      exact alG
    have hsum:¬((200:Int)<(s1.size:Int)+(s2.size:Int)):=by omega
    clear alG
    go_wp2
    go_quiet (fail)
    go_wp2
    go_roundw
    case rel=>exact⟨k+1,by omega,by go_num,HM.out,Base.below_drewN HB.out _,HF2.out⟩
    case measure=>simp[intOf];omega
   ·have hsum:(200:Int)<(s1.size:Int)+(s2.size:Int):=by omega
    clear alG
    go_wp2
    go_quiet (fail)
    go_wp2
    go_ret
    exact FIN.out _ _ (Base.below_drewN HB.out _) (fun h=>by cases h)
  ·obtain rfl:k=n:=by omega
   have HA:Hid (∀p ∈ l,p.1.size+p.2.size≤200):=by
    intro p hp
    obtain⟨j,hj,rfl⟩:=List.getElem_of_mem hp
    exact HF.out j hj (by rw[←HL.out];exact hj)
   by_cases h20:k≤20
   ·have h20i:(k:Int)≤20:=by omega
    by_cases alG:T.size+S.size≤200
    ·have hsum:(T.size:Int)+(S.size:Int)≤200:=by omega
     go_wp2
     go_ret
     exact FIN.out _ _ HB.out (fun _=>⟨by rw[HL.out];exact h20,alG,HA.out⟩)
    ·have hsum:¬(T.size:Int)+(S.size:Int)≤200:=by omega
     go_wp2
     go_ret
     exact FIN.out _ _ HB.out (fun h=>by simp at h)
   ·have h20i:¬(k:Int)≤20:=by omega
    go_wp2
    go_ret
    exact FIN.out _ _ HB.out (fun h=>by cases h)
end Go.Proofs.YtmpeaoacaecgpaaGreatDoor.BG
namespace Go.Proofs.YtmpeaoacaecgpaaGreatDoor.Wx
open Go.RowKit Base Base2
theorem sizeB:(Tryz.prog.info? 147).map (·.size)=some 2:=by kernel_rfl
theorem liesB:liesAt Tryz.prog Tryz.prog.depth 147 (2 / Tryz.prog.cellsOf 147) 0 147 1=true:=by kernel_rfl
abbrev lq (B b:Nat) (l:List UInt8) (w:World):Prop:=Lib.IsBuilder 147 5 B b (Lib.byteCells l) w
theorem PY (b:Nat) (w:World) (h0:w.cell? ⟨b,0,none⟩=some (.pointer (some ⟨b,0,none⟩))):
  Calls Tryz.prog 251 #[.pointer (some ⟨b,0,none⟩)] w fun e w'=>e=.returned (.tuple #[])∧w'=w:=by
 obtain⟨j,hj,_⟩:=Option.map_eq_some_iff.1 sizeB
 go_enter Tryz.func251,Tryz.ntmps251
 go_wp2
 rw[Lib.run_neq_ptr_same w _ Tryz.underlying145 hj]
 go_wp2
 go_end0
 exact⟨rfl,rfl⟩
theorem MJ (b:Nat) (w:World) (h0:w.cell? ⟨b,0,none⟩=some (.pointer none)) (hsh:w.shape? b=some (147,2)) (hfz:w.frozen? ⟨b,0,none⟩=false):
  Calls Tryz.prog 251 #[.pointer (some ⟨b,0,none⟩)] w fun e w'=>e=.returned (.tuple #[])∧w'=w.setCell ⟨b,0,none⟩ (.pointer (some ⟨b,0,none⟩)):=by
 obtain⟨j,hj,hjs⟩:=Option.map_eq_some_iff.1 sizeB
 go_enter Tryz.func251,Tryz.ntmps251
 go_wp2
 rw[Lib.run_to_unsafe w ⟨b,0,none⟩ Tryz.underlying145 Tryz.underlying267 hj (by rw[hjs];decide) hsh (Nat.zero_lt_succ 1)]
 simp only[Result.andThen]
 rw[Oper.upon_value]
 go_wp2
 rw[run_callFunc_extern Tryz.func292 (by kernel_rfl) (by kernel_rfl) (by kernel_rfl) (e:=Extern.AbiNoEscape.same) (by kernel_rfl)]
 rw[Lib.run_noEscape]
 simp only[Result.andThen]
 rw[Oper.upon_value]
 go_wp2
 rw[Lib.run_from_unsafe w ⟨b,0,none⟩ Tryz.underlying267 Tryz.underlying145 hj hsh liesB]
 simp only[Result.andThen]
 rw[Oper.upon_value]
 go_wp2
 go_end0
 exact⟨rfl,rfl⟩
theorem check_any (B b:Nat) (bs:List Value) (w:World) (h:Lib.IsBuilder 147 5 B b bs w):
  Calls Tryz.prog 251 #[.pointer (some ⟨b,0,none⟩)] w fun e w'=>e=.returned (.tuple #[])∧(Lib.BuilderAt 147 5 B b (.pointer (some ⟨b,0,none⟩)) bs w'∧Below B w w'):=by
 rcases h with h|h
 ·refine(MJ b w h.cell0 h.shape h.frozen0).mono ?_
  rintro e w' ⟨rfl,rfl⟩
  exact⟨rfl,h.used _,(Below.refl B w).setCell (p:=⟨b,0,none⟩) h.1 _⟩
 ·refine(PY b w h.cell0).mono ?_
  rintro e w' ⟨rfl,rfl⟩
  exact⟨rfl,h,Below.refl B _⟩
theorem write_any (B b:Nat) (l:List UInt8) (s:ByteArray) (w:World) (h:lq B b l w) (hlen:l.length+s.size≤140737488355328) (hBw:B≤w.heap.size):
  Calls Tryz.prog 151 #[.pointer (some ⟨b,0,none⟩),.string s] w fun e w'=>e=.returned (.tuple #[.int .i64 s.size,.nilIface])∧lq B b (l++s.data.toList) w'∧Below B w w':=by
 obtain⟨i0,hi,hz0,hz1,hz2⟩:=info_parts iR
 have hlb:(Lib.byteCells l).length=l.length:=by simp[Lib.byteCells]
 have WE:=Base.hid hlb
 clear hlb
 go_enter Tryz.func151,Tryz.ntmps151
 go_wp2_with (refine(check_any B b _ _ h).mono ?_)
 rintro e w1 ⟨rfl,h1,hb1⟩
 obtain⟨hB,v,hbk,hown,hne⟩:=h1
 have c0:w1.cell? ⟨b,0,none⟩=some (.pointer (some ⟨b,0,none⟩)):=by rw[Lib.cell_of_heap hbk];rfl
 have c1:w1.cell? ⟨b,1,none⟩=some v:=by rw[Lib.cell_of_heap hbk];rfl
 go_wp2_with (at_builtin;refine Lib.wpList_append_own_string _ rfl _ _ 45 9 rfl B 5 i0 Tryz.underlying45 Tryz.underlying9 hi hz0 hz1 hz2 _ _ _ rfl hown s rfl ?c3 ?c4 ?c5 ?_)
 case c3=>have:=WE.out;unfold maxLen;omega
 case c4=>have:=WE.out;omega
 case c5=>have:=hb1.size;omega
 intro v' w2 hown' hgrow _
 have hlt:b<w1.heap.size:=(Array.getElem?_eq_some_iff.1 hbk).1
 have hb2:w2.heap[b]?=some (.cells #[.pointer (some ⟨b,0,none⟩),v] 147 (0,0)):=by
  rw[hgrow.block b hlt (fun e=>hne e.symm)]
  exact hbk
 have d0:w2.cell? ⟨b,0,none⟩=some (.pointer (some ⟨b,0,none⟩)):=by rw[Lib.cell_of_heap hb2];rfl
 have d1:w2.cell? ⟨b,1,none⟩=some v:=by rw[Lib.cell_of_heap hb2];rfl
 have f1:w2.frozen? ⟨b,1,none⟩=false:=Lib.frozen_of_heap hb2 1
 obtain⟨ao,n',cap,rfl⟩:∃ao n' cap,v'=.slice ao n' cap:=by
  rcases hown'.2 with⟨hv,_⟩|⟨g,cap,cur,hv,_⟩
  ·exact⟨_,_,_,hv⟩
  ·exact⟨_,_,_,hv⟩
 go_wp2
 go_ret2
 refine⟨rfl,Or.inr ?_,?_⟩
 ·have hp:=Lib.BuilderAt.put (T:=147) (e:=5) hB hb2 (bs':=Lib.byteCells l++Lib.strCells s) (by simpa[Lib.strCells_length]using hown') (by decide)
  have e:Lib.byteCells (l++s.data.toList)=Lib.byteCells l++Lib.strCells s:=by simp[Lib.byteCells,Lib.strCells]
  rw[e]
  exact hp
 ·exact(hb1.grown hgrow (by have:=hb1.size;omega) (fun k hk=>(hown.lt k hk).1)).setCell (p:=⟨b,1,none⟩) hB _
end Go.Proofs.YtmpeaoacaecgpaaGreatDoor.Wx
namespace Go.Proofs.YtmpeaoacaecgpaaGreatDoor.agI
open Go.RowKit Base Base2 Wx
def wF (b:Nat) (w w':World):Prop:=∀(g:Nat) (C:Array Value) (T:TypeId) (m:Nat×Nat),g≠b→T≠5→w.heap[g]?=some (.cells C T m)→w'.heap[g]?=some (.cells C T m)
theorem wF.refl (b:Nat) (w:World):wF b w w:=fun _ _ _ _ _ _ h=>h
theorem wF.trans {b:Nat} {w w1 w2:World} (h:wF b w w1) (h2:wF b w1 w2):wF b w w2:=fun g C T m hg hT e=>h2 g C T m hg hT (h g C T m hg hT e)
theorem wF.set (b:Nat) (w:World) (i:Nat) (v:Value):wF b w (w.setCell ⟨b,i,none⟩ v):=fun g C T m hg _ e=>(heap_setCell_other w ⟨b,i,none⟩ g v (fun e=>hg e)).trans e
theorem ada (B b:Nat) (bs:List Value) (w:World) (h:Lib.IsBuilder 147 5 B b bs w):
  Calls Tryz.prog 251 #[.pointer (some ⟨b,0,none⟩)] w fun e w'=>e=.returned (.tuple #[])∧(Lib.BuilderAt 147 5 B b (.pointer (some ⟨b,0,none⟩)) bs w'∧Below B w w')∧wF b w w':=by
 rcases h with h|h
 ·refine(MJ b w h.cell0 h.shape h.frozen0).mono ?_
  rintro e w' ⟨rfl,rfl⟩
  exact⟨rfl,⟨h.used _,(Below.refl B w).setCell (p:=⟨b,0,none⟩) h.1 _⟩,wF.set b w 0 _⟩
 ·refine(PY b w h.cell0).mono ?_
  rintro e w' ⟨rfl,rfl⟩
  exact⟨rfl,⟨h,Below.refl B _⟩,wF.refl _ _⟩
theorem Ba (B b:Nat) (l:List UInt8) (s:ByteArray) (w:World) (h:lq B b l w) (hlen:l.length+s.size≤140737488355328) (hBw:B≤w.heap.size):
  Calls Tryz.prog 151 #[.pointer (some ⟨b,0,none⟩),.string s] w fun e w'=>e=.returned (.tuple #[.int .i64 s.size,.nilIface])∧lq B b (l++s.data.toList) w'∧Below B w w'∧wF b w w':=by
 obtain⟨i0,hi,hz0,hz1,hz2⟩:=info_parts iR
 have hlb:(Lib.byteCells l).length=l.length:=by simp[Lib.byteCells]
 have WE:=Base.hid hlb
 clear hlb
 go_enter Tryz.func151,Tryz.ntmps151
 go_wp2_with (refine(ada B b _ _ h).mono ?_)
 rintro e w1 ⟨rfl,⟨h1,hb1⟩,hk1⟩
 have Ux:=Base.hid hk1
 clear hk1
 obtain⟨hB,v,hbk,hown,hne⟩:=h1
 have c0:w1.cell? ⟨b,0,none⟩=some (.pointer (some ⟨b,0,none⟩)):=by rw[Lib.cell_of_heap hbk];rfl
 have c1:w1.cell? ⟨b,1,none⟩=some v:=by rw[Lib.cell_of_heap hbk];rfl
 go_wp2_with (at_builtin;refine Lib.wpList_append_own_string _ rfl _ _ 45 9 rfl B 5 i0 Tryz.underlying45 Tryz.underlying9 hi hz0 hz1 hz2 _ _ _ rfl hown s rfl ?c3 ?c4 ?c5 ?_)
 case c3=>have:=WE.out;unfold maxLen;omega
 case c4=>have:=WE.out;omega
 case c5=>have:=hb1.size;omega
 intro v' w2 hown' hgrow _
 have hk2:wF b w1 w2:=by
  intro g C T m hg hT e
  have hlt:g<w1.heap.size:=(Array.getElem?_eq_some_iff.1 e).1
  rw[hgrow.block g hlt (fun e2=>?_)]
  ·exact e
  ·rcases hown.2 with⟨hv,_⟩|⟨g',cap,cur,hv,_,hh,_⟩
   ·rw[hv]at e2
    cases e2
   ·rw[hv]at e2
    have e3:g'=g:=by simpa[Value.ownBlock,eq_comm]using e2
    subst e3
    rw[e]at hh
    simp at hh
    exact hT hh.2.1
 have X6:=Base.hid hk2
 clear hk2
 have hlt:b<w1.heap.size:=(Array.getElem?_eq_some_iff.1 hbk).1
 have hb2:w2.heap[b]?=some (.cells #[.pointer (some ⟨b,0,none⟩),v] 147 (0,0)):=by
  rw[hgrow.block b hlt (fun e=>hne e.symm)]
  exact hbk
 have d0:w2.cell? ⟨b,0,none⟩=some (.pointer (some ⟨b,0,none⟩)):=by rw[Lib.cell_of_heap hb2];rfl
 have d1:w2.cell? ⟨b,1,none⟩=some v:=by rw[Lib.cell_of_heap hb2];rfl
 have f1:w2.frozen? ⟨b,1,none⟩=false:=Lib.frozen_of_heap hb2 1
 obtain⟨ao,n',cap,rfl⟩:∃ao n' cap,v'=.slice ao n' cap:=by
  rcases hown'.2 with⟨hv,_⟩|⟨g,cap,cur,hv,_⟩
  ·exact⟨_,_,_,hv⟩
  ·exact⟨_,_,_,hv⟩
 go_wp2
 go_ret2
 refine⟨rfl,Or.inr ?_,?_,(Ux.out.trans X6.out).trans (wF.set b w2 1 _)⟩
 ·have hp:=Lib.BuilderAt.put (T:=147) (e:=5) hB hb2 (bs':=Lib.byteCells l++Lib.strCells s) (by simpa[Lib.strCells_length]using hown') (by decide)
  have e:Lib.byteCells (l++s.data.toList)=Lib.byteCells l++Lib.strCells s:=by simp[Lib.byteCells,Lib.strCells]
  rw[e]
  exact hp
 ·exact(hb1.grown hgrow (by have:=hb1.size;omega) (fun k hk=>(hown.lt k hk).1)).setCell (p:=⟨b,1,none⟩) hB _
theorem qL (B b:Nat) (l:List UInt8) (w:World) (h:lq B b l w) (hBw:B≤w.heap.size):
  Calls Tryz.prog 155 #[.pointer (some ⟨b,0,none⟩)] w fun e w'=>e=.returned (.string (strOf l))∧Below B w w':=Tryz.Builder_String B b l w h hBw
theorem gZ {B b:Nat} {l:List UInt8} {w w':World} (h:lq B b l w) (hb:Below w.heap.size w w'):lq B b l w':=by
 rcases h with⟨h1,v,h2,h3,h4⟩|⟨h1,v,h2,h3,h4⟩
 ·exact Or.inl ⟨h1,v,(hb.block _ (Array.getElem?_eq_some_iff.1 h2).1).trans h2,aP h3 hb,h4⟩
 exact Or.inr ⟨h1,v,(hb.block _ (Array.getElem?_eq_some_iff.1 h2).1).trans h2,aP h3 hb,h4⟩
end Go.Proofs.YtmpeaoacaecgpaaGreatDoor.agI
namespace Go.Proofs.YtmpeaoacaecgpaaGreatDoor.TokS
open Go.RowKit Base Base2 pU WZ
theorem air (s:ByteArray) (w:World) (hs:s.size≤1073741824):
  Calls Tryz.prog 267 #[.string s] w fun e w'=>e=.returned (.string (strOf (qq s.data.toList)))∧Below w.heap.size w w':=by
 have hl:s.data.toList.length=s.size:=Array.length_toList
 have HL:=hid hl
 clear hl
 obtain⟨i0,hi,hz0,hz1,hz2⟩:=info_parts iR
 go_enter Tryz.func267,Tryz.ntmps267
 go_wp2
 have hown0:(w.alloc (.cells #[.int .u8 34] 5)).ownsRow w.heap.size 5 1 (.slice (some ⟨w.heap.size,0,none⟩) 1 1) 1 (ah [34]):=
  ⟨rfl,.inr ⟨w.heap.size,1,#[.int .u8 34],rfl,Nat.le_refl _,heap_alloc_new w _,Nat.le_refl _,by decide,rfl,rfl⟩⟩
 go_loopw [3,4] (fun v vk wr=>∃(j m:Nat),j≤s.size∧m≤2*j+1∧vk=.int .i64 j∧Hid ((34::qt (s.data.toList.take j)).length=m)∧wr.ownsRow w.heap.size 5 1 v m (ah (34::qt (s.data.toList.take j)))∧Below w.heap.size w wr) (fun _ vk _=>s.size - (intOf vk).toNat)
 case atStart=>exact⟨0,1,Nat.zero_le _,by omega,rfl,rfl,hown0,(Below.refl _ _).alloc (Nat.le_refl _) _⟩
 case round =>
  clear hown0
  obtain⟨j,m,hj,hm,rfl,HM,hown,hbel⟩:=hrel
  by_cases hlt:j<s.size
  ·obtain ⟨c,hc⟩:∃c,s[j]=c:=⟨_,rfl⟩
   have HS:Hid (s.data.toList.take (j+1)=s.data.toList.take j++[c]):=by
    rw[←hc,List.take_succ_eq_append_getElem (by rw[HL.out];exact hlt)]
    rfl
   by_cases hq:(c.toNat:Int)=34∨(c.toNat:Int)=92
   ·have HE:Hid (34::qt (s.data.toList.take (j+1))=(34::qt (s.data.toList.take j))++[92]++[c]):=by
     show _=_
     rw[HS.out,agd,qe,if_pos (by rcases hq with h|h;exact .inl (Dl c 34 h);exact .inr (Dl c 92 h))]
     simp
    have hcase:((c.toNat:Int)==34)=true∨(((c.toNat:Int)==34)=false∧((c.toNat:Int)==92)=true):=by
     by_cases h:(c.toNat:Int)=34
     ·exact .inl (by simp[h])
     ·exact .inr ⟨by simp[h],by simp;omega⟩
    clear hq
    rcases hcase with e1|⟨e1,e2⟩
    all_goals
     go_wp2_with (at_builtin;refine aQ rfl _ _ 45 rfl w.heap.size 5 i0 (.int .u8 0) 1 Tryz.underlying45 hi hz0 hz1 hz2 rfl _ m _ rfl hown hbel hbel.size [.int .u8 92] 1 rfl rfl (by intro u hu;simp at hu;subst hu;rfl) (by unfold maxLen;omega) (by omega) ?_)
     intro v' w3 hown3 dG
     clear hown hbel
     go_wp2_with (at_builtin;refine aQ rfl _ _ 45 rfl w.heap.size 5 i0 (.int .u8 0) 1 Tryz.underlying45 hi hz0 hz1 hz2 rfl _ (m+1) _ rfl hown3 dG dG.size [.int .u8 (c.toNat:Int)] 1 rfl rfl (by intro u hu;simp at hu;subst hu;rfl) (by unfold maxLen;omega) (by omega) ?_)
     intro v4 w4 hown4 rQ
     clear hown3 dG
     go_wp2
     go_roundw
     case rel=>exact⟨j+1,m+1+1,by omega,by omega,by go_num,by rw[HE.out,List.length_append,List.length_append,HM.out];exact rfl,by rw[HE.out,aS,aS,show ah [92]=[.int .u8 92]from rfl,List.append_assoc];exact hown4,rQ⟩
     case measure=>simp[intOf];omega
   ·have HE:Hid (34::qt (s.data.toList.take (j+1))=(34::qt (s.data.toList.take j))++[c]):=by
     show _=_
     rw[HS.out,agd,qe,if_neg (by rintro(h|h);exact hq (.inl (by rw[h];rfl));exact hq (.inr (by rw[h];rfl)))]
     all_goals simp
    have e1:((c.toNat:Int)==34)=false:=by simp;omega
    have e2:((c.toNat:Int)==92)=false:=by simp;omega
    clear hq
    go_wp2_with (at_builtin;refine aQ rfl _ _ 45 rfl w.heap.size 5 i0 (.int .u8 0) 1 Tryz.underlying45 hi hz0 hz1 hz2 rfl _ m _ rfl hown hbel hbel.size [.int .u8 (c.toNat:Int)] 1 rfl rfl (by intro u hu;simp at hu;subst hu;rfl) (by unfold maxLen;omega) (by omega) ?_)
    intro v' w3 hown3 dG
    clear hown hbel
    go_wp2
    go_roundw
    case rel=>exact⟨j+1,m+1,by omega,by omega,by go_num,by rw[HE.out,List.length_append,HM.out];exact rfl,by rw[HE.out,aS];exact hown3,dG⟩
    case measure=>simp[intOf];omega
  ·obtain rfl:j=s.size:=by omega
   have HE:Hid (34::qt (s.data.toList.take s.size)=34::qt s.data.toList):=by
    show _=_
    rw[←HL.out,List.take_length]
   rw[HE.out]at hown
   clear HM
   go_wp2_with (at_builtin;refine aQ rfl _ _ 45 rfl w.heap.size 5 i0 (.int .u8 0) 1 Tryz.underlying45 hi hz0 hz1 hz2 rfl _ m _ rfl hown hbel hbel.size [.int .u8 34] 1 rfl rfl (by intro u hu;simp at hu;subst hu;rfl) (by unfold maxLen;omega) (by omega) ?_)
   intro v' w3 hown3 dG
   clear hown hbel
   have hown4:w3.ownsRow w.heap.size 5 1 v' (m+1) (ah (qq s.data.toList)):=by
    have e:ah (34::qt s.data.toList)++[.int .u8 34]=ah (qq s.data.toList):=by simp[qq,ah]
    rw[←e]
    exact hown3
   clear hown3
   obtain⟨A,cp,rfl,_,_,hrd⟩:=aJ hown4
   have hst:=aF 45 9 5 Tryz.underlying45 Tryz.underlying5 Tryz.underlying9 _ cp hrd
   go_wp2
   go_ret
   exact⟨rfl,dG⟩
end Go.Proofs.YtmpeaoacaecgpaaGreatDoor.TokS
namespace Go.Proofs.YtmpeaoacaecgpaaGreatDoor.NH
open Go.RowKit Base Base2 cO pU qg OW NG OX oG Zu sV BG rC CQ Wx agI
def mQ (l:List (ByteArray×ByteArray)):PL:=l.map fun p=>(p.1.data.toList,p.2.data.toList)
theorem qO (l:List (ByteArray×ByteArray)):(mQ l).length=l.length:=by simp[mQ]
theorem OZ (l:List (ByteArray×ByteArray)) (k:Nat) (h:k<l.length):(mQ l).take (k+1)=(mQ l).take k++[(l[k].1.data.toList,l[k].2.data.toList)]:=by
 rw[List.take_succ_eq_append_getElem (by rw[qO];exact h)]
 simp[mQ]
theorem ae2 (l:List (ByteArray×ByteArray)):(mQ l).take l.length=mQ l:=List.take_of_length_le (by rw[qO];exact Nat.le_refl _)
theorem dl (s:ByteArray):s.data.toList.length=s.size:=Array.length_toList
theorem am4 (s1 s2:ByteArray) (h:s1.size+s2.size≤200):(Q9 (s1.data.toList,s2.data.toList)).length≤604:=by
 have:=anb s2.data.toList
 rw[dl]at this
 unfold Q9
 simp only[List.length_cons,List.length_append,dl]
 omega
theorem Yc {l:List (ByteArray×ByteArray)} (h:∀p ∈ l,p.1.size+p.2.size≤200):∀k,k≤l.length→(pps ((mQ l).take k)).length≤604*k
 |0,_=>by simp[pps]
 |k+1,hk=>by
  have ih:=Yc h k (by omega)
  have:=am4 l[k].1 l[k].2 (h _ (List.getElem_mem _))
  rw[OZ l k (by omega),Rh,List.length_append]
  omega
theorem afp (T S:ByteArray):(ess T.data.toList S.data.toList).length=T.size+S.size+1:=by
 unfold ess
 simp only[List.length_cons,List.length_append,dl]
 omega
theorem hB3lt {B b:Nat} {l:List UInt8} {w:World} (h:lq B b l w):b<w.heap.size:=by
 rcases h with⟨_,v,h2,_⟩|⟨_,v,h2,_⟩
 ·exact(Array.getElem?_eq_some_iff.1 h2).1
 exact(Array.getElem?_eq_some_iff.1 h2).1
theorem aeg (P s1 v:List UInt8) (s2:List UInt8) (h:v=Au s2):P++((59::s1)++[61])++v=P++Q9 (s1,s2):=by
 subst h
 simp[Q9]
theorem print_any (T S:ByteArray) (A:Option Addr) (n cap:Nat) (l:List (ByteArray×ByteArray)) (w:World) (hr:zH w A n l) (hc:n≤cap) (hm:cap≤maxLen) (hF:vY T S l):
  Calls Tryz.prog 187 #[.agg #[.string T,.string S,.slice A n cap]] w fun e w'=>e=.returned (.string (strOf (dS T.data.toList S.data.toList (mQ l))))∧Below w.heap.size w w':=by
 unfold maxLen at hm
 obtain⟨hf1,hf2,hf3⟩:=hF
 have hl:l.length=n:=hr.1
 have HL:=hid hl
 have HR:=hid hr
 have HF:=hid hf3
 have hn20:n≤20:=by omega
 obtain⟨E,hE⟩:∃E,E=ess T.data.toList S.data.toList:=⟨_,rfl⟩
 have hEl:E.length≤201:=by rw[hE,afp];omega
 have HE:=hid (fun w=>Dn T S (.slice A n cap) w (by omega) (by omega))
 rw[←hE]at HE
 have HP:Hid (∀k,k≤l.length→(E++pps ((mQ l).take k)).length≤201+604*k):=by
  intro k hk
  have:=Yc hf3 k hk
  rw[List.length_append]
  omega
 have HV:Hid (dS T.data.toList S.data.toList (mQ l)=E++pps ((mQ l).take n)):=by
  show _=_
  rw[←hl,ae2,hE]
  rfl
 have HEL:=hid hEl
 have HTY:Hid (98≠5):=by show _≠_;decide
 clear hr hl hf1 hf2 hf3 hE hEl
 go_enter Tryz.func187,Tryz.ntmps187
 go_upto_region 1 with(fail)
 generalize hw1:w.alloc _=w1
 have hb1:Below w.heap.size w w1:=by rw[←hw1];exact(Below.refl _ _).alloc (Nat.le_refl _) _
 have hs1:w1.heap.size=w.heap.size+1:=by rw[←hw1];simp
 have kP:Hid (B3 44 w1 w.heap.size (.string T) (.string S) (.slice A n cap)):=by
  show B3 _ _ _ _ _ _
  rw[←hw1]
  exact heap_alloc_new w _
 clear hw1
 go_upto_region 2 with(fail)
 have HB2:Hid (lq (w.heap.size+1) (w.heap.size+1) [] (w1.alloc (.cells #[.pointer none,.slice none 0 0] 147))):=by
  have h:=Lib.fresh_isBuilder 147 5 w1
  rw[hs1]at h
  exact h
 have XO:Below (w.heap.size+1) w1 (w1.alloc (.cells #[.pointer none,.slice none 0 0] 147)):=(Below.refl _ _).alloc (by rw[hs1];exact Nat.le_refl _) _
 generalize hw2:w1.alloc _=w2 at HB2 XO⊢
 clear hw2
 have hsz1:w.heap.size+1≤w2.heap.size:=by have:=XO.size;omega
 have hx2:B3 44 w2 w.heap.size (.string T) (.string S) (.slice A n cap):=(XO.block _ (by omega)).trans kP.out
 have gY:=hid hx2
 obtain⟨c0,c1,c2⟩:=hx2.facts
 have HB02:Hid (Below w.heap.size w w2):=hb1.trans (XO.mono (by omega))
 have BD:=hid hs1
 clear hx2 hs1 hb1 XO kP
 go_wp2_with fail
 refine(HE.out _).mono ?_
 rintro e w3 ⟨rfl,hb3⟩
 have HB3:=hid (gZ HB2.out hb3)
 have HB03:=hid (bel HB02.out hb3)
 have hsz3:w.heap.size+1≤w3.heap.size:=by have:=hb3.size;omega
 have hx3:=gY.out.below hb3
 have jI:=hid hx3
 clear hb3 c0 c1 c2
 go_wp2_with fail
 refine(Ba _ _ _ _ _ HB3.out (by rw[size_strOf];have:=HEL.out;simp;omega) hsz3).mono ?_
 rintro e w4 ⟨rfl,hB4,hb4,hk4⟩
 have HB4:Hid (lq (w.heap.size+1) (w.heap.size+1) (E++pps ((mQ l).take 0)) w4):=by
  show lq _ _ _ _
  rw[show(E++pps ((mQ l).take 0))=[]++(strOf E).data.toList by simp[pps,strOf]]
  exact hB4
 have hb34:Below w.heap.size w3 w4:=hb4.mono (by omega)
 have HB04:Hid (Below w.heap.size w w4):=HB03.out.trans hb34
 have Ae:w.heap.size+1≤w4.heap.size:=by have:=hb4.size;omega
 have hx4:B3 44 w4 w.heap.size (.string T) (.string S) (.slice A n cap):=(hb4.block _ (by omega)).trans jI.out
 obtain⟨c0,c1,c2⟩:=hx4.facts
 clear hB4 hb4 hk4 hb34 hx4 hx3
 go_upto_region 4 with(fail)
 clear c0 c1 c2
 go_loopw [5,12] (fun _ vk wr=>∃k:Nat,k≤n∧vk=.int .i64 (k:Int)∧Hid (lq (w.heap.size+1) (w.heap.size+1) (E++pps ((mQ l).take k)) wr)∧Hid (Below w.heap.size w wr)∧w.heap.size+1≤wr.heap.size) (fun _ vk _=>n - (intOf vk).toNat)
 case atStart=>exact⟨0,Nat.zero_le _,rfl,HB4.out,HB04.out,Ae⟩
 case round =>
  obtain⟨k,hk,rfl,HB,HBL,hsz⟩:=hrel
  by_cases hlt:k<n
  ·have hkl:k<l.length:=by rw[HL.out];exact hlt
   obtain⟨b,off,rfl,hb,h1,h2⟩:=(HR.out.under HBL.out (Nat.le_refl _)).2 k hkl
   have hz:=HF.out l[k] (List.getElem_mem hkl)
   have hTk:=OZ l k hkl
   have hPk:=HP.out (k+1) hkl
   obtain⟨s1,hs1⟩:∃s,s=l[k].1:=⟨_,rfl⟩
   obtain⟨s2,hs2⟩:∃s,s=l[k].2:=⟨_,rfl⟩
   rw[←hs1]at h1 hz hTk
   rw[←hs2]at h2 hz hTk
   have HTK:=hid hTk
   obtain⟨P,hP⟩:∃P,P=E++pps ((mQ l).take k):=⟨_,rfl⟩
   have HPN:Hid (E++pps ((mQ l).take (k+1))=P++Q9 (s1.data.toList,s2.data.toList)):=by
    show _=_
    rw[hTk,Rh,hP,List.append_assoc]
   have hPl:P.length≤20000:=by rw[hP];have:=HP.out k (by omega);omega
   have vW:=hid hPl
   rw[←hP]at HB
   have hki:(k:Int)<(n:Int):=by omega
   obtain⟨X,hX⟩:∃X,X=59::s1.data.toList:=⟨_,rfl⟩
   obtain⟨Y,hY⟩:∃Y,Y=X++[61]:=⟨_,rfl⟩
   have hYl:Y.length≤202:=by rw[hY,hX];simp only[List.length_append,List.length_cons,dl,List.length_nil];omega
   have a1:∀w:World,(Op.stringOp .add ⟨#[59]⟩ s1).run Tryz.prog w=.ok (.string (strOf X)) w:=fun w=>by rw[hX];exact dL ⟨#[59]⟩ s1 w (by show 1+s1.size≤_;omega)
   have a2:∀w:World,(Op.stringOp .add (strOf X) ⟨#[61]⟩).run Tryz.prog w=.ok (.string (strOf Y)) w:=fun w=>by rw[hY];exact dL _ ⟨#[61]⟩ w (by rw[size_strOf,hX];simp only[List.length_cons,dl];show _+1≤_;omega)
   have HST:Hid (∀v,v=Au s2.data.toList→P++Y++v=E++pps ((mQ l).take (k+1))):=by
    intro v hv
    rw[HPN.out,hY,hX]
    exact aeg _ _ _ _ hv
   have HYL:=hid hYl
   have HIS:=hid (fun w=>Gn.QC s2 w (by omega))
   have HQU:=hid (fun w=>TokS.air s2 w (by omega))
   have hs2z:s2.size≤200:=by omega
   have hpv:Au s2.data.toList=if dP s2.data.toList=true then s2.data.toList else qq s2.data.toList:=rfl
   have hqq:=ane s2.data.toList
   rw[dl]at hqq
   obtain⟨t,ht⟩:∃t,t=dP s2.data.toList:=⟨_,rfl⟩
   rw[←ht]at HIS hpv
   obtain⟨Q,hQ⟩:∃Q:ByteArray,Q=strOf (qq s2.data.toList):=⟨_,rfl⟩
   rw[←hQ]at HQU
   have hQd:Q.data.toList=qq s2.data.toList:=by rw[hQ];rfl
   have hQl:Q.size≤402:=by rw[hQ,size_strOf];omega
   rw[←hQd]at hpv
   have HPV:=hid hpv
   have HQL:=hid hQl
   clear hs1 hs2 hkl hTk hPk hP hPl hX hY hYl hpv hqq ht hQ hQd hQl hz
   go_upto_region 6 with(fail)
   generalize bI:wr.alloc _=wa
   have hba:Below wr.heap.size wr wa:=by rw[←bI];exact(Below.refl _ _).alloc (Nat.le_refl _) _
   have hxa:B2 98 wa wr.heap.size (.string s1) (.string s2):=by show B2 _ _ _ _ _;rw[←bI];exact heap_alloc_new _ _
   have HBa:=hid (gZ HB.out hba)
   have HBLa:=hid (bel HBL.out hba)
   have hsza:w.heap.size+1≤wa.heap.size:=by have:=hba.size;omega
   have HXa:=hid hxa
   obtain⟨k0,k1⟩:=hxa.facts
   have Za:Hid (wr.heap.size≠w.heap.size+1):=by
    show _≠_
    intro e
    have h3:=hB3lt HB.out
    omega
   clear bI hba hxa h1 h2
   go_wp2_with fail
   clear k0 k1 a1 a2
   refine(Ba _ _ _ _ _ HBa.out (by rw[size_strOf];have:=HYL.out;have:=vW.out;simp;omega) hsza).mono ?_
   rintro e w5 ⟨rfl,hB5,hb5,hk5⟩
   have iG:Hid (lq (w.heap.size+1) (w.heap.size+1) (P++Y) w5):=hB5
   have hb5':Below w.heap.size wa w5:=hb5.mono (by omega)
   have xZ:Hid (Below w.heap.size w w5):=HBLa.out.trans hb5'
   have hsz5:w.heap.size+1≤w5.heap.size:=by have:=hb5.size;omega
   have hx5:B2 98 w5 wr.heap.size (.string s1) (.string s2):=hk5 _ _ _ _ Za.out HTY.out HXa.out
   obtain⟨k0,k1⟩:=hx5.facts
   clear hB5 hb5 hb5' hk5 hx5
   go_wp2_with fail
   refine(HIS.out _).mono ?_
   rintro e w6 ⟨rfl,hw6⟩
   subst hw6
   cases t with
   |true=>
    have HPV2:Hid (s2.data.toList=Au s2.data.toList):=by show _=_;rw[HPV.out,if_pos rfl]
    go_wp2_with fail
    clear k0 k1
    refine(Ba _ _ _ _ _ iG.out (by have:=HYL.out;have:=vW.out;simp;omega) hsz5).mono ?_
    rintro e w7 ⟨rfl,hB7,hb7,_⟩
    have kZ:Hid (lq (w.heap.size+1) (w.heap.size+1) (E++pps ((mQ l).take (k+1))) w7):=by
     show lq _ _ _ _
     rw[←HST.out _ HPV2.out]
     exact hB7
    have hb7':Below w.heap.size w5 w7:=hb7.mono (by omega)
    have hsz7:w.heap.size+1≤w7.heap.size:=by have:=hb7.size;omega
    clear hB7 hb7
    go_wp2
    go_roundw
    case rel=>exact⟨k+1,by omega,by go_num,kZ.out,xZ.out.trans hb7',hsz7⟩
    case measure=>simp[intOf];omega
   |false=>
    have HPV2:Hid (Q.data.toList=Au s2.data.toList):=by show _=_;rw[HPV.out,if_neg (by simp)]
    go_wp2_with fail
    clear k0 k1
    refine(HQU.out _).mono ?_
    rintro e w6 ⟨rfl,hb6⟩
    have nN:=hid (gZ iG.out hb6)
    have HBL6:=hid (bel xZ.out hb6)
    have hsz6:w.heap.size+1≤w6.heap.size:=by have:=hb6.size;omega
    clear hb6
    go_wp2_with fail
    refine(Ba _ _ _ _ _ nN.out (by have:=HYL.out;have:=vW.out;have:=HQL.out;simp;omega) hsz6).mono ?_
    rintro e w7 ⟨rfl,hB7,hb7,_⟩
    have kZ:Hid (lq (w.heap.size+1) (w.heap.size+1) (E++pps ((mQ l).take (k+1))) w7):=by
     show lq _ _ _ _
     rw[←HST.out _ HPV2.out]
     exact hB7
    have hb7':Below w.heap.size w6 w7:=hb7.mono (by omega)
    have hsz7:w.heap.size+1≤w7.heap.size:=by have:=hb7.size;omega
    clear hB7 hb7
    go_wp2
    go_roundw
    case rel=>exact⟨k+1,by omega,by go_num,kZ.out,HBL6.out.trans hb7',hsz7⟩
    case measure=>simp[intOf];omega
  ·obtain rfl:k=n:=by omega
   rw[←HV.out]at HB
   go_wp2_with fail
   refine(qL _ _ _ _ HB.out hsz).mono ?_
   rintro e w7 ⟨rfl,hb7⟩
   go_wp2
   go_ret
   exact⟨rfl,HBL.out.trans (hb7.mono (by omega))⟩
end Go.Proofs.YtmpeaoacaecgpaaGreatDoor.NH
namespace Go.Proofs.YtmpeaoacaecgpaaGreatDoor.BuiB
open Go.RowKit Base Base2 cO pU qg oG BG rC CQ acp JY Ce ND
theorem sN (letters:Bool) (T S:ByteArray) (A:Option Addr) (n cap:Nat) (A2:Option Addr) (n2 c2:Nat) (B P:List UInt8) (w:World)
  (hP:∀w':World,Below w.heap.size w w'→Calls Tryz.prog 187 #[.agg #[.string T,.string S,.slice A n cap]] w' fun e w''=>e=.returned (.string (strOf P))∧Below w'.heap.size w' w'') (hPl:P.length≤10000000) (hB:aY w A2 n2 (ah B)) (hc2:n2≤c2) (hn2:n2≤10000000):
  Calls Tryz.prog 87 #[.agg #[.string T,.string S,.slice A n cap],.slice A2 n2 c2,.bool letters] w fun e w'=>e=.returned (.string (strOf (vX++(P++Em letters B))))∧Below w.heap.size w w':=by
 have HP:=hid hP
 have HR:=hid hB
 have hbl:B.length=n2:=by rw[←aI];exact hB.1
 obtain⟨X1,hX1⟩:∃X,X=vX++P:=⟨_,rfl⟩
 have hx1:X1.length≤10000005:=by rw[hX1,List.length_append];show 5+_≤_;omega
 have HA1:Hid (∀w:World,(Op.stringOp .add ⟨#[100,97,116,97,58]⟩ (strOf P)).run Tryz.prog w=.ok (.string (strOf X1)) w):=fun w=>by rw[hX1];exact dL _ _ w (by rw[size_strOf];show 5+_≤_;omega)
 cases letters with
 |true=>
  obtain⟨X2,hX2⟩:∃X,X=X1++(CX++[44]):=⟨_,rfl⟩
  have hx2:X2.length≤10000013:=by rw[hX2,List.length_append];show _+8≤_;omega
  have hel:(e64 B).length≤20000000:=by rw[XC];omega
  have HA2:Hid (∀w:World,(Op.stringOp .add (strOf X1) ⟨#[59,98,97,115,101,54,52,44]⟩).run Tryz.prog w=.ok (.string (strOf X2)) w):=fun w=>by rw[hX2];exact dL _ _ w (by rw[size_strOf];show _+8≤_;omega)
  obtain⟨X3,hX3⟩:∃X,X=X2++e64 B:=⟨_,rfl⟩
  have HA3:Hid (∀w:World,(Op.stringOp .add (strOf X2) (strOf (e64 B))).run Tryz.prog w=.ok (.string (strOf X3)) w):=fun w=>by rw[hX3];exact dL _ _ w (by rw[size_strOf,size_strOf];omega)
  have HV:Hid (vX++(P++Em true B)=X3):=by show _=_;rw[hX3,hX2,hX1];unfold Em;rw[if_pos rfl];simp
  have F6:Hid (∀w':World,aY w' A2 n2 (ah B)→Calls Tryz.prog 188 #[.slice A2 n2 c2] w' fun e w''=>e=.returned (.string (strOf (e64 B)))∧Below w'.heap.size w' w''):=fun w' h=>acp.eF A2 n2 c2 B w' h hc2 (by omega)
  rw[HV.out]
  clear hP hB hbl hX1 hx1 hX2 hx2 hel hX3 HV hPl hn2 hc2
  go_enter Tryz.func87,Tryz.ntmps87
  go_upto_region 1 with(fail)
  generalize hw1:w.alloc _=w1
  have HB1:Hid (Below w.heap.size w w1):=by show Below _ _ _;rw[←hw1];exact(Below.refl _ _).alloc (Nat.le_refl _) _
  have hx1:B3 44 w1 w.heap.size (.string T) (.string S) (.slice A n cap):=by
   rw[←hw1]
   exact heap_alloc_new w _
  have kP:=hid hx1
  clear hw1 hx1
  have a1:=HA1.out
  have a2:=HA2.out
  have a3:=HA3.out
  obtain⟨c0,c1,c2'⟩:=kP.out.facts
  go_wp2_with fail
  clear c0 c1 c2'
  refine(HP.out _ HB1.out).mono ?_
  rintro e w2 ⟨rfl,hb2⟩
  have HB2:=hid (bel HB1.out hb2)
  have HR2:=hid (HR.out.below HB2.out)
  clear hb2
  go_wp2_with fail
  refine(F6.out _ HR2.out).mono ?_
  rintro e w3 ⟨rfl,hb3⟩
  have HB3:=hid (bel HB2.out hb3)
  clear hb3
  go_wp2
  go_ret
  exact⟨rfl,HB3.out⟩
 |false=>
  obtain⟨X2,hX2⟩:∃X,X=X1++[44]:=⟨_,rfl⟩
  have hx2:X2.length≤10000006:=by rw[hX2,List.length_append];show _+1≤_;omega
  have hel:(mV B).length≤30000000:=by have:=BuiA.Qg B;omega
  have HA2:Hid (∀w:World,(Op.stringOp .add (strOf X1) ⟨#[44]⟩).run Tryz.prog w=.ok (.string (strOf X2)) w):=fun w=>by rw[hX2];exact dL _ _ w (by rw[size_strOf];show _+1≤_;omega)
  obtain⟨X3,hX3⟩:∃X,X=X2++mV B:=⟨_,rfl⟩
  have HA3:Hid (∀w:World,(Op.stringOp .add (strOf X2) (strOf (mV B))).run Tryz.prog w=.ok (.string (strOf X3)) w):=fun w=>by rw[hX3];exact dL _ _ w (by rw[size_strOf,size_strOf];omega)
  have HV:Hid (vX++(P++Em false B)=X3):=by show _=_;rw[hX3,hX2,hX1];unfold Em;rw[if_neg (by decide)];simp
  have F6:Hid (∀w':World,aY w' A2 n2 (ah B)→Calls Tryz.prog 189 #[.slice A2 n2 c2] w' fun e w''=>e=.returned (.string (strOf (mV B)))∧Below w'.heap.size w' w''):=fun w' h=>BuiA.wM A2 n2 c2 B w' h (by omega)
  rw[HV.out]
  clear hP hB hbl hX1 hx1 hX2 hx2 hel hX3 HV hPl hn2 hc2
  go_enter Tryz.func87,Tryz.ntmps87
  go_upto_region 1 with(fail)
  generalize hw1:w.alloc _=w1
  have HB1:Hid (Below w.heap.size w w1):=by show Below _ _ _;rw[←hw1];exact(Below.refl _ _).alloc (Nat.le_refl _) _
  have hx1:B3 44 w1 w.heap.size (.string T) (.string S) (.slice A n cap):=by
   rw[←hw1]
   exact heap_alloc_new w _
  have kP:=hid hx1
  clear hw1 hx1
  have a1:=HA1.out
  have a2:=HA2.out
  have a3:=HA3.out
  obtain⟨c0,c1,c2'⟩:=kP.out.facts
  go_wp2_with fail
  clear c0 c1 c2'
  refine(HP.out _ HB1.out).mono ?_
  rintro e w2 ⟨rfl,hb2⟩
  have HB2:=hid (bel HB1.out hb2)
  have HR2:=hid (HR.out.below HB2.out)
  clear hb2
  go_wp2_with fail
  refine(F6.out _ HR2.out).mono ?_
  rintro e w3 ⟨rfl,hb3⟩
  have HB3:=hid (bel HB2.out hb3)
  clear hb3
  go_wp2
  go_ret
  exact⟨rfl,HB3.out⟩
end Go.Proofs.YtmpeaoacaecgpaaGreatDoor.BuiB
namespace Go.Proofs.YtmpeaoacaecgpaaGreatDoor.YX
open Go.RowKit Base Base2 cO pU Zz rC qg oG ajm JY Ce PrsP mW pO
theorem abp {fn:Func} {a b d:Tmp} (hf:fn.results=#[.cell a 44,.tmp b,.tmp d]) {w:World} {g:Nat} {p q r:Value} (hU:B3 44 w g p q r) (v x:Value) (tmps:Array Value) (h2:tmps.getD a undef=.pointer (some ⟨g,0,none⟩)) (h3:tmps.getD b undef=v) (h4:tmps.getD d undef=x):
  (results fn tmps).run Tryz.prog w=.ok (.tuple #[.agg #[p,q,r],v,x]) w:=by
 have hp':tmps[a]?.getD undef=.pointer (some ⟨g,0,none⟩):=by simpa using h2
 have hq':tmps[b]?.getD undef=v:=by simpa using h3
 have hr':tmps[d]?.getD undef=x:=by simpa using h4
 simp[results,hf,hp',hq',hr',asAddr,hU.load]
theorem VT {L:List UInt8} (h:(fG 44 L).2.2=false):proc L=none:=by
 unfold proc
 rw[h,if_neg (by decide)]
theorem aik {L H0 R0:List UInt8} (h:fG 44 L=(H0,R0,true)):proc L=(if YT (Lib.trimS H0 ws)=true then(if Nw.Hr (fU.dec R0)=true then some (typ (Us (Lib.trimS H0 ws)),Nw.dB (fU.dec R0))else none)else some (typ (Lib.trimS H0 ws),fU.dec R0)):=by
 unfold proc
 rw[h,if_pos rfl]
theorem KC {e:Ending} {w':World} {er:Int} (he:e=.returned (.tuple #[.agg #[.string ⟨#[]⟩,.string ⟨#[]⟩,.slice none 0 0],.slice none 0 0,.int .i64 er])):DatR oG.Oe [] er e w':=
 ⟨none,0,none,0,he,Nat.le_refl _,Nat.zero_le _,⟨rfl,fun j hj=>by simp[nY,Oe]at hj⟩,Nat.le_refl _,Nat.zero_le _,aY.nil _⟩
theorem aa9 (u:U) (A:Option Addr) (n c:Nat) (BL L:List UInt8) (w:World) (hB:∀w1:World,Below w.heap.size w w1→Calls Tryz.prog 70 #[.agg #[.string (strOf u.au),.string (strOf u.usr),.string (strOf u.pwd),.string (strOf u.hst),.bool u.hh,.int .i64 u.port,.bool u.opq,.string (strOf u.txt),.slice A n c,.bool u.hq,.bool u.hf,.string (strOf u.dY),.string (strOf u.fB)]] w1 fun e w'=>e=.returned (.string (strOf BL))∧Below w1.heap.size w1 w') (hL:Lib.trimPrefix BL vX=L) (hLs:L.length≤500000) (hM:Max w):
  Calls Tryz.prog 27 #[.agg #[.string (strOf u.au),.string (strOf u.usr),.string (strOf u.pwd),.string (strOf u.hst),.bool u.hh,.int .i64 u.port,.bool u.opq,.string (strOf u.txt),.slice A n c,.bool u.hq,.bool u.hf,.string (strOf u.dY),.string (strOf u.fB)]] w fun e w'=>DatR (ans u.au L).1 (ans u.au L).2 (err u.au L) e w'∧Below w.heap.size w w':=by
 have HBA:=hid hB
 have HM:=hid hM
 obtain⟨P,hP⟩:∃P,P=ans u.au L:=⟨_,rfl⟩
 obtain⟨er,her⟩:∃x,x=err u.au L:=⟨_,rfl⟩
 rw[←hP,←her]
 clear hB hM
 by_cases hs:u.au=DATA
 ·
  have q1:((strOf u.au).toList==[100,97,116,97])=true:=by rw[aK,hs];rfl
  have q2:(strOf u.au).toList=[100,97,116,97]:=by rw[aK,hs];rfl
  have hP1:P=(proc L).getD (oG.Oe,[]):=by rw[hP];unfold ans;rw[if_pos hs]
  have IW:er=if (proc L).isSome=true then 0 else 2:=by rw[her];unfold err;rw[if_pos hs]
  clear hP her hs
  obtain⟨X,hX⟩:∃X,X=strOf L:=⟨_,rfl⟩
  obtain⟨Y,hY⟩:∃Y,Y=strOf BL:=⟨_,rfl⟩
  rw[←hY]at HBA
  have HTP:Hid (∀w:World,Calls Tryz.prog 69 #[.string Y,.string ⟨#[100,97,116,97,58]⟩] w fun e w'=>e=.returned (.string X)∧w'=w):=fun w=>by
   have h:=Tryz.strings_TrimPrefix Y ⟨#[100,97,116,97,58]⟩ w
   rw[show Y.data.toList=BL by rw[hY];rfl,show(⟨#[100,97,116,97,58]⟩:ByteArray).data.toList=vX from rfl,hL]at h
   rw[hX]
   exact h
  obtain⟨H0,R0,cb,hcut⟩:∃a b c,fG 44 L=(a,b,c):=⟨_,_,_,rfl⟩
  have hcl:=zT 44 L
  rw[hcut]at hcl
  simp only at hcl
  have hX2:X.data.toList=L:=by rw[hX];rfl
  have HCU:Hid (∀w:World,Max w→Calls Tryz.prog 68 #[.string X,.string ⟨#[44]⟩] w fun e w'=>e=.returned (.tuple #[.string (strOf H0),.string (strOf R0),.bool cb])∧Below w.heap.size w w'):=fun w ⟨m,hm⟩=>(Tryz.strings_Cut X ⟨#[44]⟩ m w (by rw[hX,size_strOf];omega) hm).mono fun e w' ⟨h1,q,h2⟩=>⟨by rw[h1,hX2,show(⟨#[44]⟩:ByteArray).data.toList=[44]from rfl,yG,hcut];rfl,by rw[h2];exact Base.below_drewN (Below.refl _ _) _⟩
  clear hX hY hX2 hL
  go_enter Tryz.func27,Tryz.ntmps27
  go_upto_region 1 with(fail)
  generalize hw:World.alloc (World.alloc w _) _=w1
  have h1:UB w1 w.heap.size u (.slice A n c)∧Z3 44 w1 (w.heap.size+1)∧Below w.heap.size w w1:=by
   subst hw
   exact mW.laid2 w _ _ _ _
  clear hw
  have HU1:=hid h1.1
  have kP:=hid h1.2.1
  have HB1:=hid h1.2.2
  clear h1
  obtain⟨d0,d1,d2,d3,d4,d5,d6,d7,d8,d9,d10,d11,d12⟩:=HU1.out.facts
  go_wp2_with fail
  clear q1 q2 d0 d1 d2 d3 d4 d5 d6 d7 d8 d9 d10 d11 d12
  refine(HBA.out _ HB1.out).mono ?_
  rintro e w2 ⟨rfl,hb2⟩
  have HM2:=hid (HM.out.below HB1.out)
  clear HU1 HBA HM
  have gY:Hid (Z3 44 w2 (w.heap.size+1)):=B3.below kP.out hb2
  have HB2:=hid (bel HB1.out hb2)
  replace HM2:=hid (HM2.out.below hb2)
  clear kP HB1 hb2
  go_wp2_with fail
  refine(HTP.out _).mono ?_
  rintro e wx ⟨rfl,hwx⟩
  obtain rfl:w2=wx:=by first|exact hwx|exact hwx.symm
  clear hwx HTP
  go_wp2_with fail
  refine(HCU.out _ HM2.out).mono ?_
  rintro e w3 ⟨rfl,hb3⟩
  clear HCU HM2
  have jI:Hid (Z3 44 w3 (w.heap.size+1)):=B3.below gY.out hb3
  have HB3:=hid (bel HB2.out hb3)
  clear gY HB2 hb3 
  cases cb with
  |false=>
   have HP:Hid (P=(oG.Oe,[])):=by show _=_;rw[hP1,VT (by rw[hcut])];rfl
   have HR:Hid (er=2):=by show _=_;rw[IW,VT (by rw[hcut])];rfl
   clear hP1 IW hcut hcl hLs
   go_wp2_with (refine vU jI.out ⟨#[]⟩ ⟨#[]⟩ none 0 0 (.tmp 2) (.tmp 27) rfl rfl rfl rfl ?_)
   try simp only[Exit.inBlock,Exit.then]
   exact bodyPost_ret (w:=World.setRow w3 (w.heap.size+1) #[.string ⟨#[]⟩,.string ⟨#[]⟩,.slice none 0 0]) (abp rfl (Gs jI.out _ _ _) (.slice none 0 0) (.int .i64 2) _ rfl rfl rfl) rfl ⟨by rw[HP.out,HR.out];exact KC rfl,below_setRow HB3.out (by omega) _⟩
  | true=>
   rw[aik hcut]at hP1 IW
   obtain⟨H,hH⟩:∃H,H=Lib.trimS H0 ws:=⟨_,rfl⟩
   obtain⟨B,hB⟩:∃B,B=fU.dec R0:=⟨_,rfl⟩
   rw[←hH,←hB]at hP1 IW
   have hHl:H.length≤500000:=by rw[hH];have:=aiQ ws H0;omega
   have hBl:B.length≤500000:=by rw[hB];have:=fU.ku R0;omega
   obtain⟨SH,hSH⟩:∃S,S=strOf H:=⟨_,rfl⟩
   have hSd:SH.data.toList=H:=by rw[hSH];rfl
   have XK:SH.size≤500000:=by rw[hSH,size_strOf];exact hHl
   have HTS:Hid (∀w:World,Calls Tryz.prog 71 #[.string (strOf H0),.string ⟨#[9,10,12,13,32]⟩] w fun e w'=>e=.returned (.string SH)∧Below w.heap.size w w'):=fun w=>by
    have h:=Tryz.strings_Trim_set (strOf H0) ⟨#[9,10,12,13,32]⟩ w (by rw[size_strOf];omega) (by decide) (ascii_of_all (by decide))
    rw[show(strOf H0).data.toList=H0 from rfl,show(⟨#[9,10,12,13,32]⟩:ByteArray).data.toList=ws from rfl,←hH]at h
    rw[hSH]
    exact h
   have YM:Hid (∀w:World,Calls Tryz.prog 72 #[.string (strOf R0)] w fun e w'=>∃v,e=.returned v∧w'.ownsRow w.heap.size 5 1 v B.length (ah B)∧Below w.heap.size w w'):=fun w=>by
    rw[hB]
    exact fU.decode_any (strOf R0) w (by rw[size_strOf];omega)
   have HUN:Hid (∀w:World,Calls Tryz.prog 73 #[.string SH] w fun e w'=>(∃X,e=.returned (.tuple #[.string X,.bool (YT H)])∧(YT H=true→X=strOf (Us H)))∧Below w.heap.size w w'):=fun w=>by
    have h:=aeJ SH w (by omega)
    rw[hSd]at h
    exact h
   obtain⟨ib,hib⟩:∃x,x=YT H:=⟨_,rfl⟩
   rw[←hib]at HUN hP1 IW
   have HTY:Hid (∀(s:ByteArray) (w:World),s.size≤1000000→Calls Tryz.prog 75 #[.string s] w fun e w'=>MtA (typ s.data.toList) e w'∧Below w.heap.size w w'):=fun s w h=>aeI s w h
   have hul:(Us H).length≤500000:=by have:=unB_len H;omega
   have HBL:=hid hBl
   clear hcut hcl hLs hH hB hSH hib hHl hBl
   go_wp2_with fail
   refine(HTS.out _).mono ?_
   rintro e w4 ⟨rfl,hb4⟩
   clear HTS
   have JQ:Hid (Z3 44 w4 (w.heap.size+1)):=B3.below jI.out hb4
   have HB4:=hid (bel HB3.out hb4)
   clear jI HB3 hb4 
   go_wp2_with fail
   refine(YM.out _).mono ?_
   rintro e w5 ⟨v5,rfl,hown,hb5⟩
   obtain⟨A5,c5,rfl,m1,m2,hr5⟩:=aJ hown
   clear YM hown
   have Zk:Hid (Z3 44 w5 (w.heap.size+1)):=B3.below JQ.out hb5
   have iG:=hid (bel HB4.out hb5)
   clear JQ HB4 hb5 
   have HD5:=hid hr5
   clear hr5
   go_wp2_with fail
   refine(HUN.out _).mono ?_
   rintro e w6 ⟨⟨X6,rfl,hX6⟩,hb6⟩
   have HX6e:=hid hX6
   clear HUN hX6
   have HX6:Hid (Z3 44 w6 (w.heap.size+1)):=B3.below Zk.out hb6
   have nN:=hid (bel iG.out hb6)
   have HD6:=hid (HD5.out.below hb6)
   clear Zk iG hb6 HD5
   cases ib with
   |true=>
    rw[if_pos rfl]at hP1 IW
    obtain rfl:X6=strOf (Us H):=HX6e.out rfl
    clear HX6e
    have hs6:=aF (P:=Tryz.prog) 45 9 5 Tryz.underlying45 Tryz.underlying5 Tryz.underlying9 _ c5 HD6.out
    obtain⟨SB,hSB⟩:∃S,S=strOf B:=⟨_,rfl⟩
    rw[←hSB]at hs6
    obtain⟨ok,hok⟩:∃x,x=Nw.Hr B:=⟨_,rfl⟩
    obtain⟨D,hD⟩:∃x,x=Nw.dB B:=⟨_,rfl⟩
    have HBD:Hid (∀w:World,Calls Tryz.prog 74 #[.string SB] w fun e w'=>∃v,e=.returned (.tuple #[v,.bool ok])∧w'.ownsRow w.heap.size 5 1 v D.length (ah D)∧Below w.heap.size w w'):=fun w=>by
     have h:=Nw.decode_any SB w (by rw[hSB,size_strOf];have:=HBL.out;omega)
     rw[show SB.data.toList=B by rw[hSB];rfl,←hok,←hD]at h
     exact h
    rw[←hok,←hD]at hP1
    rw[←hok]at IW
    clear hSB hok hD
    go_wp2_with fail
    clear hs6
    refine(HBD.out _).mono ?_
    rintro e w7 ⟨v7,rfl,hown,hb7⟩
    obtain⟨A7,c7,rfl,l1,l2,hr7⟩:=aJ hown
    clear HBD hown HD6
    have Gg:Hid (Z3 44 w7 (w.heap.size+1)):=B3.below HX6.out hb7
    have kZ:=hid (bel nN.out hb7)
    clear HX6 nN hb7 
    have HD7:=hid hr7
    clear hr7
    cases ok with
    |false=>
     have HP:Hid (P=(oG.Oe,[])):=by show _=_;rw[hP1];rfl
     have HR:Hid (er=2):=by show _=_;rw[IW];rfl
     clear hP1 IW HTY
     go_wp2_with (refine vU Gg.out ⟨#[]⟩ ⟨#[]⟩ none 0 0 (.tmp 2) (.tmp 46) rfl rfl rfl rfl ?_)
     try simp only[Exit.inBlock,Exit.then]
     exact bodyPost_ret (w:=World.setRow w7 (w.heap.size+1) #[.string ⟨#[]⟩,.string ⟨#[]⟩,.slice none 0 0]) (abp rfl (Gs Gg.out _ _ _) (.slice none 0 0) (.int .i64 2) _ rfl rfl rfl) rfl ⟨by rw[HP.out,HR.out];exact KC rfl,below_setRow kZ.out (by omega) _⟩
    |true=>
     have HP:Hid (P=(typ (Us H),D)):=by show _=_;rw[hP1];rfl
     have HR:Hid (er=0):=by show _=_;rw[IW];rfl
     clear hP1 IW
     have HT2:Hid (∀w:World,Calls Tryz.prog 75 #[.string (strOf (Us H))] w fun e w'=>MtA (typ (Us H)) e w'∧Below w.heap.size w w'):=fun w=>HTY.out (strOf (Us H)) w (by rw[size_strOf];omega)
     clear HTY
     go_wp2_with fail
     refine(HT2.out _).mono ?_
     rintro e w8 ⟨⟨Am,cm,rfl,j1,j2,hpm⟩,hb8⟩
     have HX8:Hid (Z3 44 w8 (w.heap.size+1)):=B3.below Gg.out hb8
     have H7:=hid (bel kZ.out hb8)
     have HD8:=hid (HD7.out.below hb8)
     clear Gg kZ hb8 HD7
     have HPM:=hid hpm
     clear hpm HT2
     go_wp2_with (refine vU HX8.out (strOf (typ (Us H)).ty) (strOf (typ (Us H)).sub) Am (typ (Us H)).ps.length cm (.tmp 2) (.tmp 50) rfl rfl rfl rfl ?_)
     try simp only[Exit.inBlock,Exit.then]
     exact bodyPost_ret (w:=World.setRow w8 (w.heap.size+1) #[.string (strOf (typ (Us H)).ty),.string (strOf (typ (Us H)).sub),.slice Am (typ (Us H)).ps.length cm]) (abp rfl (Gs HX8.out _ _ _) (.slice A7 D.length c7) (.int .i64 0) _ rfl rfl rfl) rfl ⟨by rw[HP.out,HR.out];exact⟨Am,cm,A7,c7,rfl,j1,j2,Ou (QM _ (LZ _)) HPM.out HX8.out _,l1,l2,Jp HD8.out HX8.out _⟩,below_setRow H7.out (by omega) _⟩
   |false=>
    rw[if_neg (show ¬(false=true)by decide)]at hP1 IW
    clear HX6e
    have HP:Hid (P=(typ H,B)):=by show _=_;rw[hP1];rfl
    have HR:Hid (er=0):=by show _=_;rw[IW];rfl
    clear hP1 IW
    have HT2:Hid (∀w:World,Calls Tryz.prog 75 #[.string SH] w fun e w'=>MtA (typ H) e w'∧Below w.heap.size w w'):=fun w=>by
     have h:=HTY.out SH w (by omega)
     rw[hSd]at h
     exact h
    clear HTY
    go_wp2_with fail
    refine(HT2.out _).mono ?_
    rintro e w7 ⟨⟨Am,cm,rfl,j1,j2,hpm⟩,hb7⟩
    have Gg:Hid (Z3 44 w7 (w.heap.size+1)):=B3.below HX6.out hb7
    have kZ:=hid (bel nN.out hb7)
    have HD7:=hid (HD6.out.below hb7)
    clear HX6 nN hb7 HD6
    have HPM:=hid hpm
    clear hpm HT2
    go_wp2_with (refine vU Gg.out (strOf (typ H).ty) (strOf (typ H).sub) Am (typ H).ps.length cm (.tmp 2) (.tmp 50) rfl rfl rfl rfl ?_)
    try simp only[Exit.inBlock,Exit.then]
    exact bodyPost_ret (w:=World.setRow w7 (w.heap.size+1) #[.string (strOf (typ H).ty),.string (strOf (typ H).sub),.slice Am (typ H).ps.length cm]) (abp rfl (Gs Gg.out _ _ _) (.slice A5 B.length c5) (.int .i64 0) _ rfl rfl rfl) rfl ⟨by rw[HP.out,HR.out];exact⟨Am,cm,A5,c5,rfl,j1,j2,Ou (QM _ (LZ _)) HPM.out Gg.out _,m1,m2,Jp HD7.out Gg.out _⟩,below_setRow kZ.out (by omega) _⟩
 ·
  have q1:((strOf u.au).toList==[100,97,116,97])=false:=by rw[aK,beq_eq_false_iff_ne];exact hs
  have q2:¬(strOf u.au).toList=[100,97,116,97]:=by rw[aK];exact hs
  have HP:Hid (P=(oG.Oe,[])):=by show _=_;rw[hP];unfold ans;rw[if_neg hs]
  have HR:Hid (er=1):=by show _=_;rw[her];unfold err;rw[if_neg hs]
  clear hP her hs hL HBA HM
  go_enter Tryz.func27,Tryz.ntmps27
  go_upto_region 1 with(fail)
  generalize hw:World.alloc (World.alloc w _) _=w1
  have h1:UB w1 w.heap.size u (.slice A n c)∧Z3 44 w1 (w.heap.size+1)∧Below w.heap.size w w1:=by
   subst hw
   exact mW.laid2 w _ _ _ _
  clear hw
  have HU1:=hid h1.1
  have kP:=hid h1.2.1
  have HB1:=hid h1.2.2
  clear h1
  obtain⟨d0,d1,d2,d3,d4,d5,d6,d7,d8,d9,d10,d11,d12⟩:=HU1.out.facts
  go_wp2_with (refine vU kP.out ⟨#[]⟩ ⟨#[]⟩ none 0 0 (.tmp 2) (.tmp 16) rfl rfl rfl rfl ?_)
  try simp only[Exit.inBlock,Exit.then]
  exact bodyPost_ret (w:=World.setRow w1 (w.heap.size+1) #[.string ⟨#[]⟩,.string ⟨#[]⟩,.slice none 0 0]) (abp rfl (Gs kP.out _ _ _) (.slice none 0 0) (.int .i64 1) _ rfl rfl rfl) rfl ⟨by rw[HP.out,HR.out];exact KC rfl,below_setRow HB1.out (by omega) _⟩
end Go.Proofs.YtmpeaoacaecgpaaGreatDoor.YX
namespace Go.Proofs.YtmpeaoacaecgpaaGreatDoor.PthK
open Go.RowKit Base Base2 PthJ Regs
theorem lK (w:World) (s:ByteArray) (p:Nat):Below w.heap.size w (w.iter s p):=(Below.refl _ _).alloc (Nat.le_refl _) _
theorem fF (r:Int) (w:World) (h0:128≤r):Calls Tryz.prog 333 #[.int .i32 r] w fun e w'=>e=.returned (.bool (validRune r))∧w=w':=by
 have q0:(0:Int)≤r:=by omega
 by_cases h1:r<55296
 ·have HV:Hid (validRune r=true):=decide_eq_true (.inl ⟨q0,h1⟩)
  go_enter Tryz.func333,Tryz.ntmps333
  go_wp2
  go_ret
  exact⟨ak HV.out.symm,rfl⟩
 by_cases h2:57343<r
 ·by_cases h3:r≤1114111
  ·have HV:Hid (validRune r=true):=decide_eq_true (.inr ⟨h2,h3⟩)
   go_enter Tryz.func333,Tryz.ntmps333
   go_wp2
   go_ret
   exact⟨ak HV.out.symm,rfl⟩
  have HV:Hid (validRune r=false):=decide_eq_false (by omega)
  go_enter Tryz.func333,Tryz.ntmps333
  go_wp2
  go_ret
  exact⟨ak HV.out.symm,rfl⟩
 have HV:Hid (validRune r=false):=decide_eq_false (by omega)
 go_enter Tryz.func333,Tryz.ntmps333
 go_wp2
 go_ret
 exact⟨ak HV.out.symm,rfl⟩
def two:ByteArray:=⟨#[47,92]⟩
theorem D7 (r:Int) (w:World) (h0:128≤r):Calls Tryz.prog 298 #[.string two,.int .i32 r] w fun e w'=>e=.returned (.int .i64 (-1))∧Below w.heap.size w w':=by
 have q0:(0:Int)≤r:=by omega
 have q1:¬r<128:=by omega
 obtain⟨T,hT⟩:∃T,T=two:=⟨_,rfl⟩
 have hsz:T.size=2:=by rw[hT];rfl
 have g0:∀h,T[0]'h=47:=by subst hT;intro h;rfl
 have g1:∀h,T[1]'h=92:=by subst hT;intro h;rfl
 rw[←hT]
 by_cases hE:r=65533
 ·subst hE
  have hn0:∀ty,(Instr.next (.pointer (some ⟨w.heap.size,0,none⟩)) true ty).run Tryz.prog (w.iter T 0)=.ok (.tuple #[.bool true,.int .i64 0,.int .i32 47]) (w.iter T 1):=fun ty=>by
   have:=run_next_ascii (P:=Tryz.prog) w T 0 ty (by omega) (by rw[g0];decide)
   rw[g0]at this
   exact this
  have hn1:∀ty,(Instr.next (.pointer (some ⟨w.heap.size,0,none⟩)) true ty).run Tryz.prog (w.iter T 1)=.ok (.tuple #[.bool true,.int .i64 1,.int .i32 92]) (w.iter T 2):=fun ty=>by
   have:=run_next_ascii (P:=Tryz.prog) w T 1 ty (by omega) (by rw[g1];decide)
   rw[g1]at this
   exact this
  have hn2:∀ty,(Instr.next (.pointer (some ⟨w.heap.size,0,none⟩)) true ty).run Tryz.prog (w.iter T 2)=.ok (.tuple #[.bool false]) (w.iter T 2):=fun ty=>run_next_end w T 2 ty (by omega)
  clear hT g0 g1 hsz
  go_enter Tryz.func298,Tryz.ntmps298
  go_wp2
  go_loopg [5,6] 2 (fun g _ _ wx=>∃i:Nat,i+g=2∧wx=w.iter T i)
  case atStart=>exact⟨0,rfl,rfl⟩
  case round=>
   obtain⟨i,hig,rfl⟩:=hrel
   cases gk with
   |zero=>
    obtain rfl:i=2:=by omega
    go_wp2
    go_ret
    exact⟨rfl,lK _ _ _⟩
   |succ g=>
    cases g with
    |zero=>
     obtain rfl:i=1:=by omega
     go_wp2
     go_roundg 0
     case measure=>omega
     case rel=>exact⟨2,rfl,rfl⟩
    |succ g=>
     obtain rfl:g=0:=by omega
     obtain rfl:i=0:=by omega
     go_wp2
     go_roundg 1
     case measure=>omega
     case rel=>exact⟨1,rfl,rfl⟩
 cases hv:validRune r with
 |false=>
  have HV:=hid hv
  clear hT g0 g1 hsz hv
  go_enter Tryz.func298,Tryz.ntmps298
  go_wp2_with fail
  refine(fF r _ h0).mono ?_
  rintro e w2 ⟨rfl,rfl⟩
  rw[HV.out]
  go_wp2
  go_ret
  exact⟨rfl,Below.refl _ _⟩
 | true=>
  have HV:=hid hv
  obtain⟨hE2,hE4,hEl⟩:=encode_facts r (by rw[validRune_eq];exact hv) h0
  obtain⟨E,hEE⟩:∃E,E=Utf8.encode r:=⟨_,rfl⟩
  rw[←hEE]at hE2 hE4 hEl
  have hcv:∀w:World,(convert 21 9 (.int .i32 r)).run Tryz.prog w=.ok (.string E) w:=fun w=>by
   rw[hEE]
   exact run_convert_int_string w _ _ .i32 r (by rw[Tryz.underlying21];rfl) Tryz.underlying9
  clear hT hv hEE
  by_cases h2:E.size=2
  ·obtain ⟨c,hc⟩:∃c,c=E[1]'(by omega):=⟨_,rfl⟩
   have hc128:128≤c.toNat:=by
    have:=hEl (by omega)
    rw[hc]
    have e:E.size - 1=1:=by omega
    simpa[e]using this
   have g92:=g1 (by omega)
   have hne:((92:Int) !=(c.toNat:Int))=true:=by simp;omega
   have HC:=hid hc128
   have hcE:E[1]'(by omega)=c:=hc.symm
   have hz:(E.size:Int) - 1=1:=by omega
   clear hEl hE2 hE4 hc hc128 g0
   go_enter Tryz.func298,Tryz.ntmps298
   go_wp2_with fail
   refine(fF r _ h0).mono ?_
   rintro e w2 ⟨rfl,rfl⟩
   rw[HV.out]
   go_wp2
   go_step3
   go_wp2
   go_loopg [9] 0 (fun _ s9 wx=>s9=.int .i64 1∧wx=w)
   case atStart=>exact⟨int_eq (by omega),rfl⟩
   case round=>
    obtain⟨rfl,rfl⟩:=hrel
    go_wp2
    go_step3
    go_wp2
    go_region
    go_wp2_with fail
    refine aV (by kernel_rfl) [is (.string T),is (.int .i64 1),is (.int .i64 2),is (.string ByteArray.empty),is (.string E),is (.int .i64 1),is (.int .u8 (c.toNat:Int)),is (.int .i64 (-1)),is (.int .i64 (-1))] [[],[],[1],[0,2],[],[],[4,5],[3,6],[7]] (by kernel_rfl) ?_ ?_
    ·refine⟨?_,?_,?_,?_,?_,?_,?_,?_,?_,trivial⟩
     all_goals(intro t wq hbq hh K hK;simp only[filled,upd,Have,is,any,row,pick,Act.put,List.setIfInBounds_toArray,List.set_cons_zero,List.set_cons_succ,Nat.reduceAdd,Nat.reduceEqDiff,reduceIte,List.tail_cons,List.headD_cons]at hh hK⊢;(try simp only[hh]at hK⊢);try clear hh)
     iterate 2 · go_simp;exact hK _ _ (Below.refl _ _) rfl
     ·go_simp;first|exact hK _ _ (Below.refl _ _) rfl|exact hK _ _ (Below.refl _ _) (iC (by omega) (by omega))
     iterate 4 · go_simp;exact hK _ _ (Below.refl _ _) rfl
     ·go_simp;refine(Tryz.strings_IndexByte ByteArray.empty _ _).mono ?_;rintro e wz ⟨rfl,hwz⟩;subst hwz;exact hK _ _ (Below.refl _ _) rfl
     go_simp;exact hK _ _ (Below.refl _ _) rfl
    intro t wq hbq hh
    have f8:=aB hh 8 (by decide)
    simp only[pick]at f8
    replace f8:t 8=(.int .i64 (-1)):=f8
    clear hh
    simp only[filled,upd,Have,is,any,row,pick,Act.put,List.setIfInBounds_toArray,List.set_cons_zero,List.set_cons_succ,Nat.reduceAdd,Nat.reduceEqDiff,reduceIte]
    simp only[f8]
    go_wp2
    rw[Exit.noGoto_ret]
    go_simp
    go_ret
    exact⟨rfl,CY (Below.refl _ _) hbq⟩
  have h3:3≤E.size:=by omega
  clear hEl g0 g1 h2
  have q3:¬((E.size:Int) - 1<2):=by omega
  go_enter Tryz.func298,Tryz.ntmps298
  go_wp2_with fail
  refine(fF r _ h0).mono ?_
  rintro e w2 ⟨rfl,rfl⟩
  rw[HV.out]
  go_wp2
  go_step3
  go_wp2
  go_loopg [9] 0 (fun _ s9 wx=>s9=.int .i64 ((E.size:Int) - 1)∧wx=w)
  case atStart=>exact⟨rfl,rfl⟩
  case round=>
   obtain⟨rfl,rfl⟩:=hrel
   go_wp2
   rw[Exit.noGoto_ret]
   go_ret
   exact⟨rfl,Below.refl _ _⟩
theorem vJ (r:Int) (w:World) (h0:0≤r) (h1:r<128):Calls Tryz.prog 298 #[.string two,.int .i32 r] w fun e w'=>e=.returned (.int .i64 (Lib.indexByte two.data.toList r.toNat.toUInt8))∧w'=w:=Any.strings_IndexRune_ascii {Tryz.l153 with} two r w h0 h1
theorem abL (c:UInt8) (h:128≤c.toNat) (sp:Bool):gB sp c=false:=by
 have h1:c≠47:=by rintro rfl;exact absurd h (by decide)
 have h2:c≠92:=by rintro rfl;exact absurd h (by decide)
 unfold gB
 rw[decide_eq_false h1,decide_eq_false h2]
 cases sp<;>rfl
theorem Qq (s:ByteArray) (i:Nat) (h:i<s.size):(s.get! i)=s[i]'h:=by
 simp[ByteArray.get!,getElem!_pos,h]
 rfl
theorem wide (s:ByteArray) (i:Nat) (h:i<s.size) (ha:128≤(s[i]'h).toNat):i+(Utf8.decode s i).2≤s.size∧∀j (hj:j<s.size),i≤j→j<i+(Utf8.decode s i).2→128≤(s[j]'hj).toNat:=by
 have hn:¬(s[i]'h).toNat<128:=by omega
 have one:i+1≤s.size∧∀j (hj:j<s.size),i≤j→j<i+1→128≤(s[j]'hj).toNat:=⟨by omega,fun j hj h1 h2=>by
  obtain rfl:j=i:=by omega
  exact ha⟩
 simp only[Utf8.decode,get_at s i h,hn,if_false]
 have c1:∀k,(decide (i+k<s.size)&&(s.get! (i+k)).toNat / 64==2)=true→∃hk:i+k<s.size,128≤(s[i+k]'hk).toNat:=fun k hk=>by
  simp only[Bool.and_eq_true,decide_eq_true_eq,beq_iff_eq]at hk
  refine⟨hk.1,?_⟩
  have:=hk.2
  rw[Qq s _ hk.1]at this
  omega
 split
 ·rename_i h2
  simp only[Bool.and_eq_true]at h2
  obtain⟨k1,b1⟩:=c1 1 (by simpa using h2.2)
  split
  ·refine⟨by show i+2≤_;omega,fun j hj h1 h2=>?_⟩
   replace h2:j<i+2:=h2
   have:j=i∨j=i+1:=by omega
   rcases this with rfl|rfl
   ·exact ha
   exact b1
  exact one
 split
 ·rename_i h2
  simp only[Bool.and_eq_true]at h2
  obtain⟨k1,b1⟩:=c1 1 (by simpa using h2.1.2)
  obtain⟨k2,b2⟩:=c1 2 (by simpa using h2.2)
  split
  ·refine⟨by show i+3≤_;omega,fun j hj h1 h2=>?_⟩
   replace h2:j<i+3:=h2
   have:j=i∨j=i+1∨j=i+2:=by omega
   rcases this with rfl|rfl|rfl
   ·exact ha
   ·exact b1
   exact b2
  exact one
 split
 ·rename_i h2
  simp only[Bool.and_eq_true]at h2
  obtain⟨k1,b1⟩:=c1 1 (by simpa using h2.1.1.2)
  obtain⟨k2,b2⟩:=c1 2 (by simpa using h2.1.2)
  obtain⟨k3,b3⟩:=c1 3 (by simpa using h2.2)
  split
  ·refine⟨by show i+4≤_;omega,fun j hj h1 h2=>?_⟩
   replace h2:j<i+4:=h2
   have:j=i∨j=i+1∨j=i+2∨j=i+3:=by omega
   rcases this with rfl|rfl|rfl|rfl
   ·exact ha
   ·exact b1
   ·exact b2
   exact b3
  exact one
 exact one
def ZJ (w:World) (k:Nat) (s:ByteArray) (p:Nat):World:={w with heap:=w.heap.setIfInBounds k (.stringIter s p)}
theorem Pz (w:World) (k:Nat) (s:ByteArray) (p:Nat) (h:k<w.heap.size):(ZJ w k s p).heap[k]?=some (.stringIter s p):=by
 show(w.heap.setIfInBounds k _)[k]?=_
 simp[h]
theorem yC {w0 w:World} (h:Below w0.heap.size w0 w) (s:ByteArray) (p:Nat):Below w0.heap.size w0 (ZJ w w0.heap.size s p):=
 ⟨h.os,h.tape,h.output,by show _≤(w.heap.setIfInBounds _ _).size;simpa using h.size,fun k hk=>by
  show(w.heap.setIfInBounds _ _)[k]?=_
  rw[Array.getElem?_setIfInBounds_ne (by omega)]
  exact h.block k hk⟩
theorem next_any {P:Program} (w:World) (k:Nat) (s:ByteArray) (pos:Nat) (ty:TypeId) (hk:w.heap[k]?=some (.stringIter s pos)) (h:pos<s.size):
  (Instr.next (.pointer (some ⟨k,0,none⟩)) true ty).run P w=.ok (.tuple #[.bool true,.int .i64 pos,.int .i32 (Utf8.decode s pos).1]) (ZJ w k s (pos+(Utf8.decode s pos).2)):=by
 simp only[Instr.next,getObj,setObj,Sem.run_bind,Sem.run,hk,Result.andThen,h,if_true]
 simp[goInt,ZJ]
theorem DI {P:Program} (w:World) (k:Nat) (s:ByteArray) (pos:Nat) (ty:TypeId) (hk:w.heap[k]?=some (.stringIter s pos)) (h:¬pos<s.size):
  (Instr.next (.pointer (some ⟨k,0,none⟩)) true ty).run P w=.ok (.tuple #[.bool false]) w:=by
 simp[Instr.next,getObj,Sem.run,hk,h]
theorem short_any (s:ByteArray) (w:World) (h8:s.size≤8):
  Calls Tryz.prog 271 #[.string s,.string two] w fun e w'=>e=.returned (.int .i64 (Lib.indexAny s.data.toList [47,92]))∧Below w.heap.size w w':=by
 have hemp:two.toList.isEmpty=false:=by unfold two;rw[ByteArray.toList_mk];rfl
 have hsz2:((two.size:Int)==1)=false:=rfl
 have h8z:decide ((8:Int)<(s.size:Int))=false:=decide_eq_false (by omega)
 have hL:s.data.toList.length=s.size:=Array.length_toList
 have HL:=hid hL
 clear hL
 have Du:=vJ
 have Dw:=D7
 obtain⟨T,hT⟩:∃T,T=two:=⟨_,rfl⟩
 rw[←hT]at Du Dw
 have MB:=hid Du
 have Zg:=hid Dw
 clear Du Dw
 rw[←hT]at hemp hsz2⊢
 have HT:=hid hT
 clear hT
 go_enter Tryz.func271,Tryz.ntmps271
 go_wp2_with fail
 refine(Any.strings_shouldUseASCIISet {Tryz.l153 with} _ _).mono ?_
 rintro e w2 ⟨rfl,hw2⟩
 subst hw2
 rw[h8z]
 go_wp2
 go_loopg [9,10] s.size (fun g _ _ wx=>∃i:Nat,i≤s.size∧s.size≤i+g∧wx.heap[w2.heap.size]?=some (.stringIter s i)∧Hid (Below w2.heap.size w2 wx)∧Hid (Lib.NoAny s.data.toList [47,92] i))
 case atStart=>exact⟨0,Nat.zero_le _,by omega,World.iter_heap _ _ _,lK _ _ _,Lib.NoAny.zero _ _⟩
 case round=>
  obtain⟨i,hile,hig,hit,HB,HN⟩:=hrel
  have FD:w2.heap.size<wr.heap.size:=(Array.getElem?_eq_some_iff.1 hit).1
  by_cases hi:i<s.size
  ·obtain ⟨g,rfl⟩:∃g,gk=g+1:=⟨gk - 1,by omega⟩
   obtain⟨x,hx⟩:∃x:UInt8,s[i]'hi=x:=⟨_,rfl⟩
   have hxl:s.data.toList[i]?=some x:=by rw[←hx];exact Lib.data_getElem? s i hi
   have hnx:=fun ty=>next_any (P:=Tryz.prog) wr w2.heap.size s i ty hit hi
   obtain⟨r,hr⟩:∃r:Nat,r=(Utf8.decode s i).1:=⟨_,rfl⟩
   obtain⟨d,hd⟩:∃d:Nat,d=(Utf8.decode s i).2:=⟨_,rfl⟩
   rw[←hr,←hd]at hnx
   obtain⟨wa,bI⟩:∃wa,wa=ZJ wr w2.heap.size s (i+d):=⟨_,rfl⟩
   have hia:wa.heap[w2.heap.size]?=some (.stringIter s (i+d)):=by rw[bI];exact Pz _ _ _ _ FD
   have HBA:Hid (Below w2.heap.size w2 wa):=by show Below _ _ _;rw[bI];exact yC HB.out _ _
   have hka:w2.heap.size<wa.heap.size:=(Array.getElem?_eq_some_iff.1 hia).1
   rw[←bI]at hnx
   have HIA:=hid hia
   have HKA:=hid hka
   clear bI hit FD hia hka
   by_cases hx128:x.toNat<128
   ·obtain rfl:d=1:=by rw[hd,decode_ascii s i hi (by rw[hx];exact hx128)]
    obtain rfl:r=x.toNat:=by rw[hr,decode_ascii s i hi (by rw[hx];exact hx128),hx]
    have Hx:=hid hxl
    have HBK:Hid (((x.toNat:Int)).toNat.toUInt8=x):=by show _=_;simp
    have Y4:=hid (Lib.contains_iff_indexByte [47,92] x)
    have hx0:(0:Int)≤(x.toNat:Int):=by omega
    clear hxl hx hr hd
    cases hin:([47,92]:List UInt8).contains x
    ·have hlt:¬((0:Int)≤Lib.indexByte T.data.toList x):=by rw[HT.out];exact of_decide_eq_false (Y4.out.symm.trans hin)
     have Y7:=hid hin
     clear hin
     go_wp2_with fail
     refine(MB.out _ _ hx0 (by omega)).mono ?_
     rintro e w3 ⟨rfl,hw3⟩
     subst hw3
     rw[HBK.out]
     go_wp2
     go_roundg g
     case measure=>omega
     case rel=>exact⟨i+1,by omega,by omega,HIA.out,HBA,HN.out.succ Hx.out Y7.out⟩
    ·have hlt:(0:Int)≤Lib.indexByte T.data.toList x:=by rw[HT.out];exact of_decide_eq_true (Y4.out.symm.trans hin)
     have Y7:=hid hin
     clear hin
     go_wp2_with fail
     refine(MB.out _ _ hx0 (by omega)).mono ?_
     rintro e w3 ⟨rfl,hw3⟩
     subst hw3
     rw[HBK.out]
     go_wp2
     go_ret
     exact⟨by rw[Lib.indexAny_hit HN.out Hx.out Y7.out];rfl,HBA.out⟩
   ·obtain ⟨aaw,hpos⟩:=decode_high s i hi (by rw[hx];omega)
    have HWD:=wide s i hi (by rw[hx];omega)
    rw[←hr]at aaw
    rw[←hd]at hpos HWD
    have HNX:Hid (Lib.NoAny s.data.toList [47,92] (i+d)):=fun j b hj hb=>by
     by_cases hji:j<i
     ·exact HN.out j b hji hb
     ·obtain⟨hjs,e⟩:=List.getElem?_eq_some_iff.1 hb
      have aax:j<s.size:=by rw[HL.out]at hjs;exact hjs
      have:=HWD.2 j aax (by omega) hj
      have hb':s[j]'aax=b:=e
      rw[hb']at this
      have:=abL b this true
      rw[←afd]at this
      exact this
    have hid1:=HWD.1
    have ajw:Hid (128≤(r:Int)):=by show _≤_;omega
    clear hr hd HWD hx hxl aaw
    go_wp2_with fail
    refine(Zg.out _ _ ajw.out).mono ?_
    rintro e w3 ⟨rfl,hb3⟩
    have HI3:Hid (w3.heap[w2.heap.size]?=some (.stringIter s (i+d))):=(hb3.block _ HKA.out).trans HIA.out
    have HB3:Hid (Below w2.heap.size w2 w3):=bel HBA.out hb3
    clear hb3
    go_wp2
    go_roundg g
    case measure=>omega
    case rel=>exact⟨i+d,by omega,by omega,HI3.out,HB3,HNX⟩
  ·obtain rfl:i=s.size:=by omega
   have hnx:=fun ty=>DI (P:=Tryz.prog) wr w2.heap.size s s.size ty hit hi
   go_wp2
   go_ret
   exact⟨by rw[Lib.indexAny_none (by rw[HL.out];exact HN.out)];rfl,HB.out⟩
end Go.Proofs.YtmpeaoacaecgpaaGreatDoor.PthK
